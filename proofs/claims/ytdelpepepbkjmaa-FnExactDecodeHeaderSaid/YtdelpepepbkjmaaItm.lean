/- Interleaving as numbers, no program: the position of a symbol, that positions are a permutation, the least distance of neighbours, the symbols that a burst hits, and what a permutation is. Condition: none. -/
import Derived.Test.YtdelpepepbkjmaaBitm
namespace Go.Proofs.Ytdelpepepbkjmaa.itm
open Go.RowKit sl bm

/-- The first position of a column. -/
def st (n c m : Nat) : Nat := m * (n / c) + min m (n % c)
/-- The position of a symbol. -/
def pos (n c i : Nat) : Nat := (i % c) * (n / c) + min (i % c) (n % c) + i / c
theorem st_succ (n c m : Nat) : st n c (m + 1) = st n c m + n / c + (if m < n % c then 1 else 0) := by
  unfold st
  rw [Nat.succ_mul]
  split <;> omega
theorem st_mono {n c a b : Nat} (h : a ≤ b) : st n c a ≤ st n c b := by
  unfold st
  have := Nat.mul_le_mul_right (n / c) h
  omega
theorem st_all {n c : Nat} (hc : 0 < c) : st n c c = n := by
  unfold st
  have := Nat.mod_lt n hc
  have := Nat.div_add_mod n c
  omega
theorem st_zero (n c : Nat) : st n c 0 = 0 := by unfold st; omega
theorem pos_eq (n c i : Nat) : pos n c i = st n c (i % c) + i / c := rfl
/-- A row is below the height of its column. -/
theorem row_lt {n c i : Nat} (hc : 0 < c) (hi : i < n) : i / c < n / c + (if i % c < n % c then 1 else 0) := by
  have h1 := Nat.div_add_mod i c
  have h2 := Nat.div_add_mod n c
  have h3 := Nat.mod_lt i hc
  have h5 := Nat.mod_lt n hc
  have h4 : i / c ≤ n / c := Nat.div_le_div_right (by omega)
  rcases Nat.lt_or_ge (i / c) (n / c) with h | h
  · split <;> omega
  · have e : i / c = n / c := by omega
    rw [e] at h1
    rw [if_pos (by omega), e]; omega
theorem pos_lt_next {n c i : Nat} (hc : 0 < c) (hi : i < n) : pos n c i < st n c (i % c + 1) := by
  rw [st_succ, pos_eq]
  have := row_lt hc hi
  omega
theorem pos_lt {n c i : Nat} (hc : 0 < c) (hi : i < n) : pos n c i < n := by
  have h1 := pos_lt_next hc hi
  have h2 : st n c (i % c + 1) ≤ st n c c := st_mono (Nat.mod_lt i hc)
  rw [st_all hc] at h2
  omega
theorem pos_inj {n c i j : Nat} (hc : 0 < c) (hi : i < n) (hj : j < n) (h : pos n c i = pos n c j) : i = j := by
  have key : ∀ {a b : Nat}, a < n → b < n → pos n c a = pos n c b → ¬ a % c < b % c := by
    intro a b ha hb h hlt
    have h1 := pos_lt_next hc ha
    have h2 : st n c (a % c + 1) ≤ st n c (b % c) := st_mono hlt
    rw [h, pos_eq] at h1
    generalize b / c = q at h1
    omega
  have h1 := key hi hj h
  have h2 := key hj hi h.symm
  have e : i % c = j % c := by omega
  rw [pos_eq, pos_eq, e] at h
  have e2 : i / c = j / c := by omega
  rw [← Nat.div_add_mod i c, ← Nat.div_add_mod j c, e, e2]
theorem column (n c p : Nat) : ∀ m, p < st n c m → ∃ k, k < m ∧ st n c k ≤ p ∧ p < st n c (k + 1)
  | 0, h => by rw [st_zero] at h; omega
  | m + 1, h => by
    rcases Nat.lt_or_ge p (st n c m) with h1 | h1
    · obtain ⟨k, g1, g2, g3⟩ := column n c p m h1
      exact ⟨k, by omega, g2, g3⟩
    · exact ⟨m, by omega, h1, h⟩
theorem pos_onto {n c p : Nat} (hc : 0 < c) (hp : p < n) : ∃ i, i < n ∧ pos n c i = p := by
  obtain ⟨k, g1, g2, g3⟩ := column n c p c (by rw [st_all hc]; exact hp)
  have h2 := Nat.div_add_mod n c
  rw [st_succ] at g3
  obtain ⟨r, hr⟩ : ∃ r, p = st n c k + r := ⟨p - st n c k, by omega⟩
  subst hr
  have em : (c * r + k) % c = k := by rw [Nat.mul_add_mod]; exact Nat.mod_eq_of_lt g1
  have ed : (c * r + k) / c = r := by rw [Nat.mul_add_div hc, Nat.div_eq_of_lt g1]; rfl
  refine ⟨c * r + k, ?_, by rw [pos_eq, em, ed]⟩
  by_cases h : r < n / c
  · have h3 : c * (r + 1) ≤ c * (n / c) := Nat.mul_le_mul_left c h
    rw [Nat.mul_succ] at h3
    omega
  · have h4 : k < n % c := by
      by_cases hk : k < n % c
      · exact hk
      · rw [if_neg hk] at g3; omega
    rw [if_pos h4] at g3
    have : r = n / c := by omega
    subst this
    omega

/-- The interleaver's conditions and its index function. -/
def Ok (n c : Int) : Prop := (1 ≤ c ∧ c ≤ 64) ∧ (0 ≤ n ∧ n ≤ 10000)
instance (n c : Int) : Decidable (Ok n c) := inferInstanceAs (Decidable (_ ∧ _))
def idx (n c i : Int) : Int := if Ok n c ∧ (0 ≤ i ∧ i ≤ n - 1) then (pos n.toNat c.toNat i.toNat : Nat) else -1
theorem idx_no {n c i : Int} (h : ¬ (Ok n c ∧ (0 ≤ i ∧ i ≤ n - 1))) : idx n c i = -1 := if_neg h
theorem idx_yes {n c i : Nat} (hc : 1 ≤ c ∧ c ≤ 64) (hn : n ≤ 10000) (hi : i < n) : idx n c i = (pos n c i : Nat) := by
  unfold idx
  rw [if_pos ⟨⟨by omega, by omega⟩, by omega⟩]
  rfl
theorem Ok.nats {n c : Int} (h : Ok n c) : ∃ a b : Nat, n = a ∧ c = b ∧ 1 ≤ b ∧ b ≤ 64 ∧ a ≤ 10000 := by
  obtain ⟨⟨h1, h2⟩, h3, h4⟩ := h
  exact ⟨n.toNat, c.toNat, by omega, by omega, by omega, by omega, by omega⟩
theorem pos_le {n c i : Nat} (hc : 1 ≤ c ∧ c ≤ 64) (hn : n ≤ 10000) (hi : i < n) : pos n c i ≤ 9999 := by have := pos_lt (c := c) (by omega) hi; omega

/-- The symbols as they are read, after the first k were written. -/
def put (n c : Nat) (l : List Int) : Nat → List Int
  | 0 => l
  | k + 1 => (put n c l k).set (pos n c k) (l.getD k 0)
theorem put_len (n c : Nat) (l : List Int) : ∀ k, (put n c l k).length = l.length
  | 0 => rfl
  | k + 1 => by rw [put, List.length_set, put_len n c l k]
theorem put_at {n c : Nat} (hc : 0 < c) {l : List Int} (hl : l.length = n) : ∀ k, k ≤ n → ∀ i, i < k → (put n c l k).getD (pos n c i) 0 = l.getD i 0
  | 0, _, i, hi => by omega
  | k + 1, hk, i, hi => by
    rw [put, List.getD_eq_getElem?_getD]
    by_cases h : i = k
    · subst h
      rw [List.getElem?_set_self (by rw [put_len, hl]; exact pos_lt hc (by omega))]; rfl
    · rw [List.getElem?_set_ne (fun e => h (pos_inj hc (by omega) (by omega) e).symm), ← List.getD_eq_getElem?_getD]
      exact put_at hc hl k (by omega) i (by omega)
/-- The symbols in their original order. -/
def back (n c : Nat) (l : List Int) : List Int := (List.range n).map fun i => l.getD (pos n c i) 0
theorem back_len (n c : Nat) (l : List Int) : (back n c l).length = n := by simp [back]
theorem back_at {n c : Nat} {l : List Int} {i : Nat} (hi : i < n) : (back n c l).getD i 0 = l.getD (pos n c i) 0 := by
  simp [back, List.getD_eq_getElem?_getD, hi]
theorem put_wf {k : IntKind} {n c : Nat} {l : List Int} (hl : Wf k l) (h0 : (Lit.int k 0).wf = true) : ∀ m, Wf k (put n c l m)
  | 0 => hl
  | m + 1 => fun z hz => by
    rw [put] at hz
    rcases List.mem_or_eq_of_mem_set hz with hz | hz
    · exact put_wf hl h0 m z hz
    · rw [hz]
      rcases Nat.lt_or_ge m l.length with h | h
      · exact hl.getD h
      · rw [List.getD_eq_getElem?_getD, List.getElem?_eq_none h]; exact h0
theorem back_wf {k : IntKind} {n c : Nat} {l : List Int} (hl : Wf k l) (h0 : (Lit.int k 0).wf = true) : Wf k (back n c l) := fun z hz => by
  obtain ⟨i, _, rfl⟩ := List.mem_map.1 hz
  rcases Nat.lt_or_ge (pos n c i) l.length with h | h
  · exact hl.getD h
  · rw [List.getD_eq_getElem?_getD, List.getElem?_eq_none h]; exact h0

def itl (l : List Int) (c : Int) : List Int := if Ok l.length c then put l.length c.toNat l l.length else l
def dei (l : List Int) (c : Int) : List Int := if Ok l.length c then back l.length c.toNat l else l
theorem itl_no {l : List Int} {c : Int} (h : ¬ Ok l.length c) : itl l c = l := if_neg h
theorem dei_no {l : List Int} {c : Int} (h : ¬ Ok l.length c) : dei l c = l := if_neg h
theorem itl_yes {l : List Int} {n c : Nat} (hl : l.length = n) (h : Ok n c) : itl l c = put n c l n := by
  subst hl; exact if_pos h
theorem dei_yes {l : List Int} {n c : Nat} (hl : l.length = n) (h : Ok n c) : dei l c = back n c l := by
  subst hl; exact if_pos h
theorem itl_len (l : List Int) (c : Int) : (itl l c).length = l.length := by
  unfold itl; split
  · exact put_len _ _ _ _
  · rfl
theorem dei_len (l : List Int) (c : Int) : (dei l c).length = l.length := by
  unfold dei; split
  · exact back_len _ _ _
  · rfl
theorem list_eq {a b : List Int} {n : Nat} (ha : a.length = n) (hb : b.length = n) (h : ∀ i, i < n → a.getD i 0 = b.getD i 0) : a = b := by
  apply List.ext_getElem (by omega)
  intro i h1 h2
  have := h i (by omega)
  simpa [List.getD_eq_getElem?_getD, h1, h2] using this
theorem dei_itl (l : List Int) (c : Int) : dei (itl l c) c = l := by
  by_cases h : Ok l.length c
  · obtain ⟨a, b, _, rfl, h1, h2, h3⟩ := h.nats
    rw [dei_yes (n := l.length) (itl_len _ _) h, itl_yes rfl h]
    refine list_eq (back_len _ _ _) rfl fun i hi => ?_
    rw [back_at hi, put_at (by omega) rfl _ (Nat.le_refl _) i hi]
  · rw [itl_no h, dei_no h]
theorem itl_dei (l : List Int) (c : Int) : itl (dei l c) c = l := by
  by_cases h : Ok l.length c
  · obtain ⟨a, b, _, rfl, h1, h2, h3⟩ := h.nats
    rw [dei_yes rfl h, itl_yes (n := l.length) (back_len _ _ _) h]
    refine list_eq ((put_len _ _ _ _).trans (back_len _ _ _)) rfl fun p hp => ?_
    obtain ⟨i, hi, rfl⟩ := pos_onto (c := b) (by omega) hp
    rw [put_at (by omega) (back_len _ _ _) _ (Nat.le_refl _) i hi, back_at hi]
  · rw [dei_no h, itl_no h]

/-- The distance of neighbours, and the least one of the first k. -/
def dist (n c i : Nat) : Nat := max (pos n c i) (pos n c (i + 1)) - min (pos n c i) (pos n c (i + 1))
def least (n c : Nat) : Nat → Nat
  | 0 => n
  | k + 1 => min (least n c k) (dist n c k)
theorem dist_lt {n c i : Nat} (hc : 0 < c) (hi : i + 1 < n) : dist n c i < n := by
  have h1 := pos_lt (c := c) hc (show i < n by omega)
  have h2 := pos_lt (c := c) hc hi
  unfold dist; omega
theorem dist_pos {n c i : Nat} (hc : 0 < c) (hi : i + 1 < n) : 1 ≤ dist n c i := by
  have h : pos n c i ≠ pos n c (i + 1) := fun e => by have := pos_inj hc (by omega) hi e; omega
  unfold dist; omega
theorem least_le (n c : Nat) : ∀ k, least n c k ≤ n
  | 0 => Nat.le_refl _
  | k + 1 => by have := least_le n c k; rw [least]; omega
theorem least_dist (n c : Nat) : ∀ k i, i < k → least n c k ≤ dist n c i
  | 0, i, h => by omega
  | k + 1, i, h => by
    rw [least]
    by_cases e : i = k
    · subst e; omega
    · have := least_dist n c k i (by omega); omega
theorem least_pos {n c : Nat} (hc : 0 < c) (hn : 1 ≤ n) : ∀ k, k < n → 1 ≤ least n c k
  | 0, _ => hn
  | k + 1, h => by
    have h1 := least_pos hc hn k (by omega)
    have h2 := dist_pos (n := n) hc (show k + 1 < n by omega)
    rw [least]; omega
def spread (n c : Int) : Int := if Ok n c ∧ 2 ≤ n then (least n.toNat c.toNat (n.toNat - 1) : Nat) else 0
theorem spread_no {n c : Int} (h : ¬ (Ok n c ∧ 2 ≤ n)) : spread n c = 0 := if_neg h
theorem spread_yes {n c : Nat} (h : Ok n c) (hn : 2 ≤ n) : spread n c = (least n c (n - 1) : Nat) := if_pos ⟨h, by omega⟩

/-- The least distance so far, as the specification keeps it. -/
def bst (n c k : Nat) : Int := if k = 0 then 0 else (least n c k : Nat)
theorem bst_first {n c : Nat} (hc : 0 < c) (hn : 2 ≤ n) {d : Nat} (hd : dist n c 0 = d) : bst n c 1 = d := by
  have := dist_lt (n := n) (i := 0) hc (by omega)
  unfold bst
  rw [if_neg (by omega), least, least]; omega
theorem bst_low {n c k d : Nat} {v : Int} (hd : dist n c k = d) (hv : bst n c k = v) (h0 : 0 < k) (h : (d : Int) < v) : bst n c (k + 1) = d := by
  unfold bst at hv ⊢
  rw [if_neg (by omega)] at hv
  rw [if_neg (by omega), least]; omega
theorem bst_high {n c k d : Nat} {v : Int} (hd : dist n c k = d) (hv : bst n c k = v) (h0 : 0 < k) (h : ¬ (d : Int) < v) : bst n c (k + 1) = v := by
  unfold bst at hv ⊢
  rw [if_neg (by omega)] at hv
  rw [if_neg (by omega), least]; omega
theorem bst_end {n c k : Nat} (h : k + 1 = n) (hn : 2 ≤ n) : bst n c k = (least n c (n - 1) : Nat) := by
  unfold bst
  rw [if_neg (by omega)]
  congr 2; omega
/-- The parts of a distance, as the walks meet them. -/
theorem dist_parts {n c k a b d : Nat} (ha : pos n c k = a) (hb : pos n c (k + 1) = b) (hd : dist n c k = d) :
    ∃ mx mn : Nat, (mx : Int) = (if (a : Int) < b then (b : Int) else a) ∧ (mn : Int) = (if (b : Int) < a then (b : Int) else a) ∧ (mx : Int) - mn = d ∧ mx ≤ max a b ∧ mn ≤ mx := by
  subst ha hb hd
  refine ⟨max (pos n c k) (pos n c (k + 1)), min (pos n c k) (pos n c (k + 1)), ?_, ?_, ?_, Nat.le_refl _, by omega⟩
  · split <;> omega
  · split <;> omega
  · unfold dist; omega

/-- The symbols that a burst hits, among the first k. -/
def hitN (n c : Nat) (s e : Int) (k : Nat) : List Int := ((List.range k).filter fun i => decide (s ≤ (pos n c i : Nat) ∧ (pos n c i : Nat) ≤ e)).map fun (i : Nat) => (i : Int)
theorem hitN_zero (n c : Nat) (s e : Int) : hitN n c s e 0 = [] := rfl
theorem hitN_succ (n c : Nat) (s e : Int) (k : Nat) : hitN n c s e (k + 1) = hitN n c s e k ++ (if s ≤ (pos n c k : Nat) ∧ (pos n c k : Nat) ≤ e then [(k : Int)] else []) := by
  unfold hitN
  rw [List.range_succ, List.filter_append, List.map_append]
  congr 1
  by_cases h : s ≤ (pos n c k : Nat) ∧ (pos n c k : Nat) ≤ e
  · rw [if_pos h, List.filter_cons_of_pos (by simpa using h)]; rfl
  · rw [if_neg h, List.filter_cons_of_neg (by simpa using h)]; rfl
theorem hitN_le (n c : Nat) (s e : Int) (k : Nat) : (hitN n c s e k).length ≤ k := by
  unfold hitN
  rw [List.length_map]
  have := List.length_filter_le (fun i => decide (s ≤ (pos n c i : Nat) ∧ (pos n c i : Nat) ≤ e)) (List.range k)
  simpa using this
def clamp (d : Int) : Int := if d ≤ 0 then 0 else if 10000 ≤ d then 10000 else d
theorem clamp_impl (d : Int) : clamp d = if (10000 : Int) < (if d < 0 then 0 else d) then 10000 else (if d < 0 then 0 else d) := by
  unfold clamp
  split <;> split <;> (try split) <;> (try split) <;> omega
theorem clamp_spec (d : Int) : clamp d = if (0 : Int) < (if (10000 : Int) < d then 10000 else d) then (if (10000 : Int) < d then 10000 else d) else 0 := by
  unfold clamp
  split <;> split <;> (try split) <;> (try split) <;> omega
theorem clamp_in (d : Int) : 0 ≤ clamp d ∧ clamp d ≤ 10000 := by unfold clamp; split <;> (try split) <;> omega
def hits (n c s d : Int) : List Int := if Ok n c ∧ (0 ≤ s ∧ s ≤ 10000) then hitN n.toNat c.toNat s (s + clamp d - 1) n.toNat else []
theorem hits_no {n c s d : Int} (h : ¬ (Ok n c ∧ (0 ≤ s ∧ s ≤ 10000))) : hits n c s d = [] := if_neg h
theorem hits_yes {n c : Nat} {s d : Int} (h : Ok n c) (hs : 0 ≤ s ∧ s ≤ 10000) : hits n c s d = hitN n c s (s + clamp d - 1) n := if_pos ⟨h, hs⟩
theorem hits_len (n c s d : Int) : (hits n c s d).length ≤ 10000 := by
  unfold hits; split
  · rename_i h
    have := hitN_le n.toNat c.toNat s (s + clamp d - 1) n.toNat
    have := h.1.2
    omega
  · simp

/-- Every integer from 0 to the length minus 1 once. -/
def inR (n : Nat) (l : List Int) : Prop := ∀ z ∈ l, 0 ≤ z ∧ z < n
def Pm (l : List Int) : Prop := inR l.length l ∧ l.Nodup
instance (l : List Int) : Decidable (Pm l) := by unfold Pm inR; infer_instance
def pm (l : List Int) : Bool := decide (Pm l)
theorem pm_yes {l : List Int} (h : Pm l) : pm l = true := decide_eq_true h
theorem pm_no {l : List Int} (h : ¬ Pm l) : pm l = false := decide_eq_false h
/-- What stands for the first k. -/
def Uniq (l : List Int) (k : Nat) : Prop := inR l.length (l.take k) ∧ (l.take k).Nodup
theorem good_zero (l : List Int) : Uniq l 0 := ⟨fun z h => by simp at h, by simp⟩
theorem good_all {l : List Int} (h : Uniq l l.length) : Pm l := by
  unfold Uniq at h
  rw [List.take_length] at h
  exact h
theorem take_next {l : List Int} {k : Nat} (hk : k < l.length) {x : Int} (hx : l.getD k 0 = x) : l.take (k + 1) = l.take k ++ [x] := by
  rw [List.take_add_one, List.getElem?_eq_getElem hk, ← hx, List.getD_eq_getElem?_getD, List.getElem?_eq_getElem hk]; rfl
theorem good_next {l : List Int} {k : Nat} (hk : k < l.length) {x : Int} (hx : l.getD k 0 = x) (h : Uniq l k) (h0 : 0 ≤ x ∧ x < l.length) (hn : ¬ x ∈ l.take k) : Uniq l (k + 1) := by
  unfold Uniq
  rw [take_next hk hx]
  refine ⟨fun z hz => ?_, ?_⟩
  · rcases List.mem_append.1 hz with hz | hz
    · exact h.1 z hz
    · have : z = x := by simpa using hz
      subst this; exact h0
  · rw [List.nodup_append]
    refine ⟨h.2, by simp, fun a ha b hb => ?_⟩
    have : b = x := by simpa using hb
    subst this
    exact fun e => hn (e ▸ ha)
theorem not_range {l : List Int} {k : Nat} (hk : k < l.length) {x : Int} (hx : l.getD k 0 = x) (h0 : ¬ (0 ≤ x ∧ x < l.length)) : ¬ Pm l := fun h => by
  have hm : x ∈ l := by
    rw [← hx, List.getD_eq_getElem?_getD, List.getElem?_eq_getElem hk]; exact List.getElem_mem hk
  exact h0 (h.1 x hm)
theorem not_twice {l : List Int} {k : Nat} (hk : k < l.length) {x : Int} (hx : l.getD k 0 = x) (h0 : x ∈ l.take k) : ¬ Pm l := fun h => by
  have h2 : (l.take (k + 1)).Nodup := (List.take_sublist _ _).nodup h.2
  rw [take_next hk hx, List.nodup_append] at h2
  exact h2.2.2 x h0 x (by simp) rfl
theorem mem_next {l : List Int} {k : Nat} (hk : k < l.length) {x : Int} (hx : l.getD k 0 = x) (j : Int) : j ∈ l.take (k + 1) ↔ j ∈ l.take k ∨ j = x := by
  rw [take_next hk hx]; simp
theorem put_next {n c : Nat} {l : List Int} {k z : Nat} {x : Int} (h1 : pos n c k = z) (h2 : l.getD k 0 = x) : put n c l (k + 1) = (put n c l k).set z x := by
  subst h1 h2; rfl
/-- What has been brought back so far. -/
def half (a b : List Int) (k : Nat) : List Int := a.take k ++ b.drop k
theorem half_zero (a b : List Int) : half a b 0 = b := by simp [half]
theorem half_all {a b : List Int} {n : Nat} (h : a.length = n) (h2 : b.length = n) : half a b n = a := by
  unfold half
  rw [List.take_of_length_le (by omega), List.drop_of_length_le (by omega), List.append_nil]
theorem half_len {a b : List Int} (h : a.length = b.length) (k : Nat) : (half a b k).length = b.length := by
  simp only [half, List.length_append, List.length_take, List.length_drop]; omega
theorem half_at {a b : List Int} {k : Nat} (h : k ≤ a.length) : (half a b k).getD k 0 = b.getD k 0 := by
  unfold half
  rw [List.getD_eq_getElem?_getD, List.getElem?_append_right (by simp; omega), List.getElem?_drop, List.length_take, Nat.min_eq_left h, List.getD_eq_getElem?_getD]
  congr 2; omega
theorem half_set {a b : List Int} {k : Nat} (h : a.length = b.length) (hk : k < a.length) : (half a b k).set k (a.getD k 0) = half a b (k + 1) := by
  unfold half
  rw [List.set_append_right _ _ (by simp; omega), List.length_take, Nat.min_eq_left (by omega), Nat.sub_self, List.drop_eq_getElem_cons (show k < b.length by omega), List.set_cons_zero, List.take_add_one,
    List.getElem?_eq_getElem hk, List.getD_eq_getElem?_getD, List.getElem?_eq_getElem hk]
  simp only [Option.toList_some, Option.getD_some, List.append_assoc, List.singleton_append]
theorem half_next {a b : List Int} {k : Nat} {v : Int} (h : a.length = b.length) (hk : k < a.length) (hv : a.getD k 0 = v) : (half a b k).set k v = half a b (k + 1) := by
  rw [← hv]; exact half_set h hk
end Go.Proofs.Ytdelpepepbkjmaa.itm
