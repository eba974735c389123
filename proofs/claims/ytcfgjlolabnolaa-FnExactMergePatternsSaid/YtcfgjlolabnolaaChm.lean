/- Channel errors as numbers, no program: inverted positions, merged patterns, valid patterns, bursts. Condition: none. -/
import Derived.Test.YtcfgjlolabnolaaBitm
namespace Go.Proofs.Ytcfgjlolabnolaa.chm
open Go.RowKit sl bm

theorem getD_nat (l : List Int) {i : Nat} (h : i < l.length) : l.getD i 0 = l[i] := by rw [List.getD_eq_getElem?_getD, List.getElem?_eq_getElem h]; rfl
theorem mem_getD {l : List Int} {i : Nat} (h : i < l.length) : l.getD i 0 ∈ l := by rw [getD_nat l h]; exact List.getElem_mem h
theorem ex_getD {l : List Int} {z : Int} (h : z ∈ l) : ∃ i, i < l.length ∧ l.getD i 0 = z := by
  obtain ⟨i, h1, h2⟩ := List.getElem_of_mem h
  exact ⟨i, h1, by rw [getD_nat l h1, h2]⟩
theorem ext_getD {a b : List Int} (hl : a.length = b.length) (h : ∀ i, i < a.length → a.getD i 0 = b.getD i 0) : a = b := by
  refine List.ext_getElem hl fun i h1 h2 => ?_
  have := h i h1
  rwa [getD_nat a h1, getD_nat b h2] at this
theorem take_next (l : List Int) {k : Nat} (h : k < l.length) : l.take (k + 1) = l.take k ++ [l.getD k 0] := by
  rw [getD_nat l h, List.take_succ_eq_append_getElem h]

/-- One position inverted. -/
def flip1 (b : List Int) (p : Int) : List Int := if (0 ≤ p ∧ p ≤ (b.length : Int) - 1) ∧ 0 ≤ b.getD p.toNat 0 ∧ b.getD p.toNat 0 ≤ 1 then b.set p.toNat (1 - b.getD p.toNat 0) else b
def flips (b ps : List Int) : List Int := ps.foldl flip1 b
theorem flip1_len (b : List Int) (p : Int) : (flip1 b p).length = b.length := by unfold flip1; split <;> simp
theorem flips_len (b : List Int) : ∀ (ps : List Int), (flips b ps).length = b.length := by
  intro ps
  induction ps generalizing b with
  | nil => rfl
  | cons p ps ih => exact (ih (flip1 b p)).trans (flip1_len b p)
theorem flips_next (b ps : List Int) {k : Nat} (h : k < ps.length) : flips b (ps.take (k + 1)) = flip1 (flips b (ps.take k)) (ps.getD k 0) := by
  rw [take_next ps h]; unfold flips; rw [List.foldl_append]; rfl
theorem flip1_yes {b : List Int} {j : Nat} {x : Int} (h : j < b.length) (hx : b.getD j 0 = x) (h1 : 0 ≤ x ∧ x ≤ 1) : flip1 b (j : Int) = b.set j (1 - x) := by
  unfold flip1
  rw [if_pos ⟨⟨by omega, by omega⟩, by rw [Int.toNat_natCast, hx]; exact h1⟩, Int.toNat_natCast, hx]
theorem flip1_out {b : List Int} {p : Int} (h : ¬ (0 ≤ p ∧ p ≤ (b.length : Int) - 1)) : flip1 b p = b := if_neg fun g => h g.1
theorem flip1_odd {b : List Int} {j : Nat} {x : Int} (hx : b.getD j 0 = x) (h1 : ¬ (0 ≤ x ∧ x ≤ 1)) : flip1 b (j : Int) = b := if_neg fun g => h1 (by have := g.2; rw [Int.toNat_natCast, hx] at this; exact this)
/-- What a number of inversions makes of an element. -/
def tog (x : Int) (c : Nat) : Int := if (0 ≤ x ∧ x ≤ 1) ∧ c % 2 = 1 then 1 - x else x
theorem set_getD (b : List Int) (j i : Nat) (v : Int) (hi : i < b.length) : (b.set j v).getD i 0 = if j = i then v else b.getD i 0 := by
  rw [List.getD_eq_getElem?_getD, List.getD_eq_getElem?_getD, List.getElem?_set]
  by_cases h : j = i
  · subst h; simp [hi]
  · simp [h]
theorem flip1_at (b : List Int) (p : Int) (j : Nat) (hj : j < b.length) : (flip1 b p).getD j 0 = tog (b.getD j 0) (if p = j then 1 else 0) := by
  unfold flip1 tog
  by_cases e : p = j
  · subst e
    rw [Int.toNat_natCast, if_pos rfl]
    by_cases h : 0 ≤ b.getD j 0 ∧ b.getD j 0 ≤ 1
    · rw [if_pos ⟨⟨by omega, by omega⟩, h⟩, if_pos ⟨h, rfl⟩, set_getD _ _ _ _ hj, if_pos rfl]
    · rw [if_neg (fun g => h g.2), if_neg (fun g => h g.1)]
  · rw [if_neg e, if_neg (show ¬ ((0 ≤ b.getD j 0 ∧ b.getD j 0 ≤ 1) ∧ 0 % 2 = 1) by omega)]
    split
    · rename_i h
      rw [set_getD _ _ _ _ hj, if_neg (by omega)]
    · rfl
theorem tog_tog (x : Int) (c d : Nat) : tog (tog x c) d = tog x (c + d) := by
  unfold tog
  by_cases h : 0 ≤ x ∧ x ≤ 1
  · by_cases h1 : c % 2 = 1 <;> by_cases h2 : d % 2 = 1 <;> by_cases h3 : (c + d) % 2 = 1 <;> simp [h, h1, h2, h3] <;> omega
  · simp [h]
theorem tog_even (x : Int) {c : Nat} (h : c % 2 = 0) : tog x c = x := if_neg (by omega)
theorem tog_congr (x : Int) {c d : Nat} (h : c % 2 = 1 ↔ d % 2 = 1) : tog x c = tog x d := by unfold tog; simp only [h]
theorem flips_at (ps : List Int) : ∀ (b : List Int) (j : Nat), j < b.length → (flips b ps).getD j 0 = tog (b.getD j 0) (ps.count (j : Int)) := by
  induction ps with
  | nil => intro b j hj; exact (tog_even _ rfl).symm
  | cons p ps ih =>
    intro b j hj
    show (flips (flip1 b p) ps).getD j 0 = _
    rw [ih _ _ (by rw [flip1_len]; exact hj), flip1_at _ _ _ hj, tog_tog, List.count_cons, Nat.add_comm]
    congr 2
    by_cases e : p = j <;> simp [e]
theorem flips_twice (b a : List Int) : flips (flips b a) a = b := by
  refine ext_getD (by rw [flips_len, flips_len]) fun i hi => ?_
  rw [flips_len, flips_len] at hi
  rw [flips_at _ _ _ (by rw [flips_len]; exact hi), flips_at _ _ _ hi, tog_tog, tog_even _ (by omega)]
theorem flips_both {b a c m : List Int} (h : ∀ x, m.count x % 2 = 1 ↔ (a ++ c).count x % 2 = 1) : flips b m = flips (flips b a) c := by
  refine ext_getD (by rw [flips_len, flips_len, flips_len]) fun i hi => ?_
  rw [flips_len] at hi
  rw [flips_at _ _ _ hi, flips_at _ _ _ (by rw [flips_len]; exact hi), flips_at _ _ _ hi, tog_tog, ← List.count_append]
  exact tog_congr _ (h _)
theorem tog_in {x : Int} (c : Nat) (h : -9223372036854775808 ≤ x ∧ x ≤ 9223372036854775807) : -9223372036854775808 ≤ tog x c ∧ tog x c ≤ 9223372036854775807 := by
  unfold tog; split <;> omega
theorem flips_wf {b : List Int} (h : Wf .i64 b) (ps : List Int) : Wf .i64 (flips b ps) := Wf.of_i64 fun z hz => by
  obtain ⟨i, h1, h2⟩ := ex_getD hz
  rw [flips_len] at h1
  rw [← h2, flips_at _ _ _ h1]
  exact tog_in _ (h.i64 _ (mem_getD h1))

/-- In ascending order. -/
def Asc (l : List Int) : Prop := ∀ i, i + 1 < l.length → l.getD i 0 < l.getD (i + 1) 0
theorem getD_cons_succ (x : Int) (l : List Int) (i : Nat) : (x :: l).getD (i + 1) 0 = l.getD i 0 := rfl
theorem asc_iff (l : List Int) : Asc l ↔ l.Pairwise (· < ·) := by
  induction l with
  | nil => simp [Asc]
  | cons x l ih =>
    rw [List.pairwise_cons, ← ih]
    constructor
    · intro h
      have h2 : Asc l := fun i hi => h (i + 1) (by simp; omega)
      refine ⟨fun z hz => ?_, h2⟩
      obtain ⟨i, h3, h4⟩ := ex_getD hz
      rw [← h4]
      clear h4 hz z
      induction i with
      | zero => exact h 0 (by simp; omega)
      | succ i ih2 => exact Int.lt_trans (ih2 (by omega)) (h2 i h3)
    · intro h i hi
      cases i with
      | zero => exact h.1 _ (mem_getD (by simpa using hi))
      | succ i => exact h.2 i (by simpa using hi)
theorem asc_nil : Asc [] := fun i h => absurd h (by simp)
theorem asc_unique : ∀ {a b : List Int}, a.Pairwise (· < ·) → b.Pairwise (· < ·) → (∀ x, x ∈ a ↔ x ∈ b) → a = b
  | [], [], _, _, _ => rfl
  | [], y :: b, _, _, h => absurd ((h y).2 (by simp)) (by simp)
  | x :: a, [], _, _, h => absurd ((h x).1 (by simp)) (by simp)
  | x :: a, y :: b, ha, hb, h => by
    rw [List.pairwise_cons] at ha hb
    have e : x = y := by
      rcases List.mem_cons.1 ((h x).1 (by simp)) with h1 | h1
      · exact h1
      · rcases List.mem_cons.1 ((h y).2 (by simp)) with h2 | h2
        · exact h2.symm
        · have := hb.1 x h1
          have := ha.1 y h2
          omega
    subst e
    congr 1
    refine asc_unique ha.2 hb.2 fun z => ⟨fun hz => ?_, fun hz => ?_⟩
    · rcases List.mem_cons.1 ((h z).1 (by simp [hz])) with h1 | h1
      · have := ha.1 z hz; omega
      · exact h1
    · rcases List.mem_cons.1 ((h z).2 (by simp [hz])) with h1 | h1
      · have := hb.1 z hz; omega
      · exact h1
/-- No longer than what holds it. -/
theorem sub_len : ∀ {a b : List Int}, a.Nodup → (∀ x ∈ a, x ∈ b) → a.length ≤ b.length
  | [], _, _, _ => Nat.zero_le _
  | x :: a, b, ha, h => by
    rw [List.nodup_cons] at ha
    have hx := h x (by simp)
    have := sub_len (b := b.erase x) ha.2 fun y hy => (List.mem_erase_of_ne (fun e => ha.1 (by rw [← e]; exact hy))).2 (h y (by simp [hy]))
    rw [List.length_erase_of_mem hx] at this
    have := List.length_pos_of_mem hx
    simp only [List.length_cons]; omega

/-- m are, in ascending order, the elements that l has an odd number of times. -/
def Odds (m l : List Int) : Prop := m.Pairwise (· < ·) ∧ ∀ x, x ∈ m ↔ l.count x % 2 = 1
theorem Odds.unique {a b l : List Int} (ha : Odds a l) (hb : Odds b l) : a = b := asc_unique ha.1 hb.1 fun x => (ha.2 x).trans (hb.2 x).symm
theorem asc_nodup {a : List Int} (h : a.Pairwise (· < ·)) : a.Nodup := h.imp fun h => by omega
theorem Odds.mem {m l : List Int} (h : Odds m l) {x : Int} (hx : x ∈ m) : x ∈ l := by
  have := (h.2 x).1 hx
  exact List.count_pos_iff.1 (by omega)
theorem Odds.len {m l : List Int} (h : Odds m l) : m.length ≤ l.length := sub_len (asc_nodup h.1) fun _ => h.mem
theorem Odds.wf {m l : List Int} (h : Odds m l) (hw : Wf .i64 l) : Wf .i64 m := fun z hz => hw z (h.mem hz)
theorem Odds.count {m l : List Int} (h : Odds m l) (x : Int) : m.count x % 2 = 1 ↔ l.count x % 2 = 1 := by
  rw [← h.2 x]
  have hn := asc_nodup h.1
  by_cases hx : x ∈ m
  · have := List.nodup_iff_count.1 hn x
    have h2 := List.count_pos_iff.2 hx
    exact ⟨fun _ => hx, fun _ => by omega⟩
  · exact ⟨fun g => absurd (List.count_eq_zero.2 hx) (by omega), fun g => absurd g hx⟩
noncomputable def mrg (l : List Int) : List Int := Classical.epsilon fun m => Odds m l
theorem Odds.eq {m l : List Int} (h : Odds m l) : mrg l = m := (Classical.epsilon_spec (p := fun m => Odds m l) ⟨m, h⟩).unique h

/-- Two inversions of neighbours cancel each other: one more of a sorted list. -/
theorem canc_start : Odds [] [] := ⟨List.Pairwise.nil, fun x => by simp⟩
theorem last_of {o : List Int} {x : Int} (h : 0 < o.length) (hx : o.getD (o.length - 1) 0 = x) : o = o.take (o.length - 1) ++ [x] := by
  have := take_next o (k := o.length - 1) (by omega)
  rw [hx, show o.length - 1 + 1 = o.length by omega, List.take_length] at this
  exact this
theorem canc_drop {o s : List Int} {x : Int} (h : Odds o s) (hl : 0 < o.length) (hx : o.getD (o.length - 1) 0 = x) : Odds (o.take (o.length - 1)) (s ++ [x]) := by
  have e := last_of hl hx
  generalize o.take (o.length - 1) = p at *
  subst e
  have h1 := List.pairwise_append.1 h.1
  refine ⟨h1.1, fun z => ?_⟩
  have h2 := h.2 z
  rw [List.count_append, List.count_singleton]
  rw [List.mem_append, List.mem_singleton] at h2
  by_cases e : z = x
  · subst e
    have : z ∉ p := fun g => absurd (h1.2.2 z g z (by simp)) (by omega)
    simp only [beq_self_eq_true, if_true]
    have h3 := h2.1 (Or.inr rfl)
    exact ⟨fun g => absurd g this, fun g => by omega⟩
  · simp only [beq_iff_eq, if_neg (Ne.symm e), Nat.add_zero]
    rw [← h2]
    exact ⟨Or.inl, fun g => g.elim id fun g => absurd g e⟩
theorem canc_push {o s : List Int} {x : Int} (h : Odds o s) (hs : ∀ z ∈ s, z ≤ x) (hx : ∀ y, 0 < o.length → o.getD (o.length - 1) 0 = y → y ≠ x) : Odds (o ++ [x]) (s ++ [x]) := by
  have hlt : ∀ z ∈ o, z < x := by
    intro z hz
    have h1 := hs z (h.mem hz)
    rcases Int.lt_or_eq_of_le h1 with h2 | h2
    · exact h2
    · exfalso
      subst h2
      have hl := List.length_pos_of_mem hz
      have e := last_of hl rfl
      have hn := hx _ hl rfl
      have hy := hs _ (h.mem (mem_getD (show o.length - 1 < o.length by omega)))
      generalize o.getD (o.length - 1) 0 = y at *
      rw [e] at hz
      have h3 := h.1
      rw [e, List.pairwise_append] at h3
      rcases List.mem_append.1 hz with h4 | h4
      · have := h3.2.2 z h4 y (by simp)
        omega
      · exact hn (List.mem_singleton.1 h4).symm
  refine ⟨List.pairwise_append.2 ⟨h.1, List.pairwise_singleton _ _, fun a ha b hb => by
    have : b = x := by simpa using hb
    subst this; exact hlt a ha⟩, fun z => ?_⟩
  have h2 := h.2 z
  rw [List.count_append, List.count_singleton, List.mem_append, List.mem_singleton]
  by_cases e : z = x
  · subst e
    have : z ∉ o := fun g => absurd (hlt z g) (by omega)
    have h3 : ¬ s.count z % 2 = 1 := fun g => this (h2.2 g)
    simp only [beq_self_eq_true, if_true]
    exact ⟨fun _ => by omega, fun _ => Or.inr trivial⟩
  · simp only [beq_iff_eq, if_neg (Ne.symm e), Nat.add_zero]
    rw [← h2]
    exact ⟨fun g => g.elim id fun g => absurd g e, Or.inl⟩
theorem Odds.perm {m l s : List Int} (h : Odds m s) (hp : s.Perm l) : Odds m l := ⟨h.1, fun x => by rw [h.2 x, hp.count_eq x]⟩

/-- The specification's way: an element is put where it belongs. -/
def Some_ (o l : List Int) (k : Nat) : Prop := o.Pairwise (· < ·) ∧ ∀ x, x ∈ o ↔ (x ∈ l.take k ∧ l.count x % 2 = 1)
theorem some_start (l : List Int) : Some_ [] l 0 := ⟨List.Pairwise.nil, fun x => by simp⟩
theorem mem_take_next {l : List Int} {k : Nat} (hk : k < l.length) {x : Int} (hx : l.getD k 0 = x) (z : Int) : z ∈ l.take (k + 1) ↔ z ∈ l.take k ∨ z = x := by
  rw [take_next l hk, hx, List.mem_append, List.mem_singleton]
theorem some_even {o l : List Int} {k : Nat} {x : Int} (h : Some_ o l k) (hk : k < l.length) (hx : l.getD k 0 = x) (he : l.count x % 2 = 0) : Some_ o l (k + 1) :=
  ⟨h.1, fun z => by
    rw [h.2 z, mem_take_next hk hx]
    exact ⟨fun g => ⟨Or.inl g.1, g.2⟩, fun g => ⟨g.1.elim id fun e => (by subst e; exact absurd g.2 (by omega)), g.2⟩⟩⟩
theorem some_had {o l : List Int} {k : Nat} {x : Int} (h : Some_ o l k) (hk : k < l.length) (hx : l.getD k 0 = x) (he : x ∈ o) : Some_ o l (k + 1) :=
  ⟨h.1, fun z => by
    rw [h.2 z, mem_take_next hk hx]
    exact ⟨fun g => ⟨Or.inl g.1, g.2⟩, fun g => ⟨g.1.elim id fun e => (by subst e; exact ((h.2 z).1 he).1), g.2⟩⟩⟩
theorem some_put {o l : List Int} {k j : Nat} {x : Int} (h : Some_ o l k) (hk : k < l.length) (hx : l.getD k 0 = x) (ho : l.count x % 2 = 1) (hn : x ∉ o) (h1 : ∀ i, i < j → o.getD i 0 < x) (hj : j ≤ o.length) (h2 : j < o.length → x ≤ o.getD j 0) :
    Some_ (o.take j ++ [x] ++ o.drop j) l (k + 1) := by
  have hlo : ∀ z ∈ o.take j, z < x := by
    intro z hz
    obtain ⟨i, h3, h4⟩ := ex_getD hz
    rw [List.length_take] at h3
    have := h1 i (by omega)
    rw [List.getD_eq_getElem?_getD, List.getElem?_take, if_pos (by omega), ← List.getD_eq_getElem?_getD] at h4
    omega
  have hp := h.1
  rw [← List.take_append_drop j o, List.pairwise_append] at hp
  have hhi : ∀ z ∈ o.drop j, x < z := by
    intro z hz
    have hz0 := List.mem_of_mem_drop hz
    have hne : z ≠ x := fun e => hn (by rw [← e]; exact hz0)
    have hlt : j < o.length := by have := List.length_pos_of_mem hz; rw [List.length_drop] at this; omega
    have h5 := h2 hlt
    rw [List.drop_eq_getElem_cons hlt] at hz hp
    rw [getD_nat o hlt] at h5
    rcases List.mem_cons.1 hz with e | h6
    · omega
    · have := (List.pairwise_cons.1 hp.2.1).1 z h6
      omega
  refine ⟨?_, fun z => ?_⟩
  · rw [List.append_assoc, List.pairwise_append]
    refine ⟨hp.1, ?_, fun a ha b hb => ?_⟩
    · rw [List.singleton_append, List.pairwise_cons]
      exact ⟨hhi, hp.2.1⟩
    · rw [List.singleton_append] at hb
      rcases List.mem_cons.1 hb with e | hb
      · subst e; exact hlo a ha
      · exact hp.2.2 a ha b hb
  · rw [mem_take_next hk hx, List.mem_append, List.mem_append, List.mem_singleton]
    have h3 := h.2 z
    rw [← List.take_append_drop j o, List.mem_append] at h3
    constructor
    · rintro ((g | g) | g)
      · have := h3.1 (Or.inl g); exact ⟨Or.inl this.1, this.2⟩
      · subst g; exact ⟨Or.inr rfl, ho⟩
      · have := h3.1 (Or.inr g); exact ⟨Or.inl this.1, this.2⟩
    · rintro ⟨g | g, g2⟩
      · rcases h3.2 ⟨g, g2⟩ with g3 | g3
        · exact Or.inl (Or.inl g3)
        · exact Or.inr g3
      · exact Or.inl (Or.inr g)
theorem some_end {o l : List Int} {k : Nat} (h : Some_ o l k) (hk : l.length ≤ k) : Odds o l :=
  ⟨h.1, fun x => by
    rw [h.2 x, List.take_of_length_le hk]
    exact ⟨And.right, fun g => ⟨List.count_pos_iff.1 (by omega), g⟩⟩⟩
theorem Some_.len {o l : List Int} {k : Nat} (h : Some_ o l k) : o.length ≤ l.length := sub_len (asc_nodup h.1) fun z hz => List.mem_of_mem_take ((h.2 z).1 hz).1

/-- The positions of errors. -/
def lev (h : Int) : Int := h * h % 2147483647 % 1000
def errN (f : Nat → Int) (rate : Int) (k : Nat) : List Int := ((List.range k).filter fun i => decide (f i < rate)).map fun (i : Nat) => (i : Int)
theorem errN_zero (f : Nat → Int) (rate : Int) : errN f rate 0 = [] := rfl
theorem errN_more {f : Nat → Int} {rate : Int} {k : Nat} (h : f k < rate) : errN f rate (k + 1) = errN f rate k ++ [(k : Int)] := by
  unfold errN; rw [List.range_succ, List.filter_append, List.map_append]; simp [h]
theorem errN_less {f : Nat → Int} {rate : Int} {k : Nat} (h : ¬ f k < rate) : errN f rate (k + 1) = errN f rate k := by
  unfold errN; rw [List.range_succ, List.filter_append, List.map_append]; simp [h]
theorem errN_len (f : Nat → Int) (rate : Int) (k : Nat) : (errN f rate k).length ≤ k := by
  unfold errN
  have := List.length_filter_le (fun i => decide (f i < rate)) (List.range k)
  rw [List.length_map]
  rw [List.length_range] at this
  exact this
theorem errN_mem {f : Nat → Int} {rate : Int} {k : Nat} {z : Int} (h : z ∈ errN f rate k) : ∃ i : Nat, i < k ∧ z = i := by
  unfold errN at h
  obtain ⟨i, h1, rfl⟩ := List.mem_map.1 h
  rw [List.mem_filter, List.mem_range] at h1
  exact ⟨i, h1.1, rfl⟩
theorem errN_asc (f : Nat → Int) (rate : Int) : ∀ k, (errN f rate k).Pairwise (· < ·)
  | 0 => List.Pairwise.nil
  | k + 1 => by
    by_cases h : f k < rate
    · rw [errN_more h, List.pairwise_append]
      refine ⟨errN_asc f rate k, List.pairwise_singleton _ _, fun a ha b hb => ?_⟩
      obtain ⟨i, h1, rfl⟩ := errN_mem ha
      have : b = k := by simpa using hb
      omega
    · rw [errN_less h]; exact errN_asc f rate k
theorem errN_all {f : Nat → Int} {rate : Int} (h : ∀ i, f i < rate) : ∀ k, (errN f rate k).length = k
  | 0 => rfl
  | k + 1 => by rw [errN_more (h k), List.length_append, errN_all h k]; rfl
theorem errN_wf (f : Nat → Int) (rate : Int) {k : Nat} (hk : k ≤ 10000) : Wf .i64 (errN f rate k) := Wf.of_i64 fun z hz => by
  obtain ⟨i, h1, rfl⟩ := errN_mem hz; omega
theorem lev_in {h : Int} : 0 ≤ lev h ∧ lev h ≤ 999 := by unfold lev; omega
def errs (f : Nat → Int) (n rate : Int) : List Int := if 0 ≤ n ∧ n ≤ 10000 then errN f rate n.toNat else []
theorem errs_yes {f : Nat → Int} {rate : Int} {n : Nat} (h : n ≤ 10000) : errs f n rate = errN f rate n := by unfold errs; rw [if_pos (by omega), Int.toNat_natCast]
theorem errs_no {f : Nat → Int} {rate n : Int} (h : ¬ (0 ≤ n ∧ n ≤ 10000)) : errs f n rate = [] := if_neg h
theorem errs_len (f : Nat → Int) (n rate : Int) : (errs f n rate).length ≤ 10000 := by
  unfold errs; split
  · have := errN_len f rate n.toNat; omega
  · simp
/-- Consecutive positions. -/
def cns (s : Int) (k : Nat) : List Int := (List.range k).map fun (i : Nat) => s + i
theorem cns_succ (s : Int) (k : Nat) : cns s (k + 1) = cns s k ++ [s + (k : Int)] := by unfold cns; rw [List.range_succ, List.map_append]; rfl
theorem cns_len (s : Int) (k : Nat) : (cns s k).length = k := by simp [cns]
theorem cns_at (s : Int) {k i : Nat} (h : i < k) : (cns s k).getD i 0 = s + i := by simp [cns, List.getD_eq_getElem?_getD, h]
def brst (s l : Int) : List Int := if (0 ≤ s ∧ s ≤ 10000) ∧ 0 ≤ l ∧ l ≤ 1000 then cns s l.toNat else []
theorem brst_yes {s : Int} {l : Nat} (h : 0 ≤ s ∧ s ≤ 10000) (h2 : l ≤ 1000) : brst s l = cns s l := by unfold brst; rw [if_pos (by omega), Int.toNat_natCast]
theorem brst_no {s l : Int} (h : ¬ ((0 ≤ s ∧ s ≤ 10000) ∧ 0 ≤ l ∧ l ≤ 1000)) : brst s l = [] := if_neg h
theorem brst_len (s l : Int) : (brst s l).length ≤ 1000 := by
  unfold brst; split
  · rw [cns_len]; omega
  · simp
/-- In ascending order and in range. -/
def Vp (l : List Int) (c : Int) : Prop := Asc l ∧ ∀ i, i < l.length → 0 ≤ l.getD i 0 ∧ l.getD i 0 ≤ c
noncomputable def vpat (l : List Int) (c : Int) : Bool := @decide (Vp l c) (Classical.propDecidable _)
theorem vpat_yes {l : List Int} {c : Int} (h : Vp l c) : vpat l c = true := @decide_eq_true _ (Classical.propDecidable _) h
theorem vpat_no {l : List Int} {c : Int} (h : ¬ Vp l c) : vpat l c = false := @decide_eq_false _ (Classical.propDecidable _) h
theorem vp_range {l : List Int} {c : Int} {k : Nat} {x : Int} (hk : k < l.length) (hx : l.getD k 0 = x) (h : ¬ (0 ≤ x ∧ x ≤ c)) : ¬ Vp l c := fun g => h (by rw [← hx]; exact g.2 k hk)
theorem vp_order {l : List Int} {c : Int} {k : Nat} {x y : Int} (hk : k + 1 < l.length) (hx : l.getD k 0 = x) (hy : l.getD (k + 1) 0 = y) (h : y ≤ x) : ¬ Vp l c := fun g => by
  have := g.1 k hk
  omega
theorem errN_vp {f : Nat → Int} {rate : Int} {n : Nat} : Vp (errN f rate n) ((n : Int) - 1) :=
  ⟨(asc_iff _).2 (errN_asc f rate n), fun i hi => by
    obtain ⟨j, h1, h2⟩ := errN_mem (mem_getD hi)
    omega⟩
theorem nil_vp (c : Int) : Vp [] c := ⟨asc_nil, fun i h => absurd h (by simp)⟩
end Go.Proofs.Ytcfgjlolabnolaa.chm
