/- Reception as numbers, no program: who is sensed, the nearest, who is received. Condition: of the last part, positions within 2^30. -/
import Derived.Test.YtejjafmppihneaaPlm
namespace Go.Proofs.Ytejjafmppihneaa.rfm
open Go.RowKit plm
set_option linter.unusedVariables false

/-- The senders below k that the receiver senses, each once, in ascending order. -/
def sen (z : List Int) (s : Int) (l : List Int) (q : Int) (k : Nat) : List Int := (List.range k).flatMap fun (i : Nat) => if (i : Int) ∈ l ∧ win z s i q = true then [(i : Int)] else []
theorem sen_yes {z : List Int} {s : Int} {l : List Int} {q : Int} {k : Nat} (h1 : (k : Int) ∈ l) (h2 : win z s k q = true) : sen z s l q (k + 1) = sen z s l q k ++ [(k : Int)] := by
  unfold sen; rw [List.range_succ, List.flatMap_append]; simp [h1, h2]
theorem sen_no {z : List Int} {s : Int} {l : List Int} {q : Int} {k : Nat} (h : ¬ ((k : Int) ∈ l ∧ win z s k q = true)) : sen z s l q (k + 1) = sen z s l q k := by
  unfold sen; rw [List.range_succ, List.flatMap_append]; simp only [List.flatMap_cons, List.flatMap_nil, if_neg h, List.append_nil]
theorem sen_mem (z : List Int) (s : Int) (l : List Int) (q : Int) (k : Nat) (x : Int) : x ∈ sen z s l q k ↔ ∃ i : Nat, i < k ∧ x = (i : Int) ∧ x ∈ l ∧ win z s x q = true := by
  unfold sen
  simp only [List.mem_flatMap, List.mem_range]
  constructor
  · rintro ⟨i, h1, h2⟩
    by_cases h : (i : Int) ∈ l ∧ win z s i q = true
    · rw [if_pos h] at h2; simp at h2; subst h2; exact ⟨i, h1, rfl, h.1, h.2⟩
    · rw [if_neg h] at h2; simp at h2
  · rintro ⟨i, h1, rfl, h⟩
    exact ⟨i, h1, by rw [if_pos h]; simp⟩
theorem sen_len (z : List Int) (s : Int) (l : List Int) (q : Int) (k : Nat) : (sen z s l q k).length ≤ k := by
  induction k with
  | zero => simp [sen]
  | succ k ih =>
    by_cases h : (k : Int) ∈ l ∧ win z s k q = true
    · rw [sen_yes h.1 h.2]; simp; omega
    · rw [sen_no h]; omega
theorem sen_asc (z : List Int) (s : Int) (l : List Int) (q : Int) (k : Nat) : (sen z s l q k).Pairwise (· < ·) := by
  induction k with
  | zero => simp [sen]
  | succ k ih =>
    by_cases h : (k : Int) ∈ l ∧ win z s k q = true
    · rw [sen_yes h.1 h.2, List.pairwise_append]
      refine ⟨ih, by simp, fun a ha b hb => ?_⟩
      obtain ⟨i, h1, rfl, _⟩ := (sen_mem _ _ _ _ _ _).1 ha
      simp at hb; omega
    · rw [sen_no h]; exact ih
theorem sen_all (z : List Int) (s : Int) (l : List Int) (q x : Int) : x ∈ sen z s l q z.length ↔ x ∈ l ∧ win z s x q = true := by
  rw [sen_mem]
  constructor
  · rintro ⟨i, _, _, h1, h2⟩; exact ⟨h1, h2⟩
  · rintro ⟨h1, h2⟩
    obtain ⟨i, rfl, hi⟩ := plc_nat (win_iff.1 h2).2.1 rfl
    exact ⟨i, hi, rfl, h1, h2⟩
/-- Which stations are sensed senders among the first k senders. -/
def mrk (z : List Int) (s : Int) (l : List Int) (q : Int) (k : Nat) (j : Nat) : Bool := decide ((j : Int) ∈ l.take k ∧ win z s j q = true)
theorem mem_take_succ {l : List Int} {k : Nat} (hk : k < l.length) {x : Int} (hx : l.getD k 0 = x) (y : Int) : y ∈ l.take (k + 1) ↔ y ∈ l.take k ∨ y = x := by
  have e : l.take (k + 1) = l.take k ++ [x] := by
    rw [List.take_add_one, List.getElem?_eq_getElem hk]
    have : l[k] = x := by rw [← hx, List.getD_eq_getElem?_getD, List.getElem?_eq_getElem hk]; rfl
    simp [this]
  rw [e, List.mem_append, List.mem_singleton]
theorem mrk_yes {z : List Int} {s : Int} {l : List Int} {q : Int} {k : Nat} (hk : k < l.length) {i : Nat} (hx : l.getD k 0 = (i : Int)) (h : win z s i q = true) (j : Nat) : mrk z s l q (k + 1) j = (decide (j = i) || mrk z s l q k j) := by
  unfold mrk
  rw [Bool.eq_iff_iff, decide_eq_true_iff, Bool.or_eq_true, decide_eq_true_iff, decide_eq_true_iff, mem_take_succ hk hx]
  constructor
  · rintro ⟨h1 | h1, h2⟩
    · exact .inr ⟨h1, h2⟩
    · exact .inl (by omega)
  · rintro (rfl | ⟨h1, h2⟩)
    · exact ⟨.inr rfl, h⟩
    · exact ⟨.inl h1, h2⟩
theorem mrk_no {z : List Int} {s : Int} {l : List Int} {q : Int} {k : Nat} (hk : k < l.length) {x : Int} (hx : l.getD k 0 = x) (h : win z s x q = false) (j : Nat) : mrk z s l q (k + 1) j = mrk z s l q k j := by
  unfold mrk
  apply decide_eq_decide.2
  rw [mem_take_succ hk hx]
  constructor
  · rintro ⟨h1 | h1, h2⟩
    · exact ⟨h1, h2⟩
    · rw [h1, h] at h2; cases h2
  · rintro ⟨h1, h2⟩; exact ⟨.inl h1, h2⟩
/-- The first of the least among the first k. -/
def Fst (d : Int → Int) (m : List Int) (k : Nat) (x : Int) : Prop := ∃ j0, j0 < k ∧ m.getD j0 0 = x ∧ (∀ j, j < k → d x ≤ d (m.getD j 0)) ∧ ∀ j, j < j0 → d x < d (m.getD j 0)
theorem Fst.start (d : Int → Int) (m : List Int) : Fst d m 1 (m.getD 0 0) := by
  refine ⟨0, by omega, rfl, fun j hj => ?_, fun j hj => by omega⟩
  obtain rfl : j = 0 := by omega
  exact Int.le_refl _
theorem Fst.take {d : Int → Int} {m : List Int} {k : Nat} {x y : Int} (h : Fst d m k x) (hy : m.getD k 0 = y) (hl : d y < d x) : Fst d m (k + 1) y := by
  obtain ⟨j0, h1, h2, h3, h4⟩ := h
  refine ⟨k, by omega, hy, fun j hj => ?_, fun j hj => ?_⟩
  · rcases Nat.lt_or_ge j k with h | h
    · have := h3 j h; omega
    · obtain rfl : j = k := by omega
      rw [hy]; exact Int.le_refl _
  · have := h3 j hj; omega
theorem Fst.keep {d : Int → Int} {m : List Int} {k : Nat} {x y : Int} (h : Fst d m k x) (hy : m.getD k 0 = y) (hl : ¬ d y < d x) : Fst d m (k + 1) x := by
  obtain ⟨j0, h1, h2, h3, h4⟩ := h
  refine ⟨j0, by omega, h2, fun j hj => ?_, h4⟩
  rcases Nat.lt_or_ge j k with h | h
  · exact h3 j h
  · obtain rfl : j = k := by omega
    rw [hy]; omega
/-- The nearest sensed sender, the lowest one of several. -/
def Best (z : List Int) (s : Int) (l : List Int) (q b : Int) : Prop := b ∈ l ∧ win z s b q = true ∧ ∀ y ∈ l, win z s y q = true → dst z b q < dst z y q ∨ (dst z b q = dst z y q ∧ b ≤ y)
theorem Best.eq {z : List Int} {s : Int} {l : List Int} {q b c : Int} (h : Best z s l q b) (g : Best z s l q c) : b = c := by
  have h1 := h.2.2 c g.1 g.2.1
  have h2 := g.2.2 b h.1 h.2.1
  omega
theorem mem_getD {l : List Int} {j : Nat} (hj : j < l.length) : l.getD j 0 ∈ l := by
  rw [List.getD_eq_getElem?_getD, List.getElem?_eq_getElem hj]; exact List.getElem_mem hj
theorem ex_getD {l : List Int} {x : Int} (h : x ∈ l) : ∃ j, j < l.length ∧ l.getD j 0 = x := by
  obtain ⟨j, hj, e⟩ := List.getElem_of_mem h
  exact ⟨j, hj, by rw [List.getD_eq_getElem?_getD, List.getElem?_eq_getElem hj]; exact e⟩
theorem best_of_first {z : List Int} {s : Int} {l : List Int} {q x : Int} {k : Nat} (hk : (sen z s l q z.length).length = k) (h : Fst (fun y => dst z y q) (sen z s l q z.length) k x) : Best z s l q x := by
  obtain ⟨j0, h1, h2, h3, h4⟩ := h
  subst hk
  have hm : x ∈ sen z s l q z.length := by rw [← h2]; exact mem_getD h1
  obtain ⟨g1, g2⟩ := (sen_all _ _ _ _ _).1 hm
  refine ⟨g1, g2, fun y hy hw => ?_⟩
  obtain ⟨j, hj, rfl⟩ := ex_getD ((sen_all z s l q y).2 ⟨hy, hw⟩)
  have h5 := h3 j hj
  dsimp only at h5 h4
  rcases Nat.lt_or_ge j j0 with hlt | hge
  · exact .inl (h4 j hlt)
  · rcases Int.lt_or_le (dst z x q) (dst z ((sen z s l q z.length).getD j 0) q) with h6 | h6
    · exact .inl h6
    · refine .inr ⟨by omega, ?_⟩
      rcases Nat.eq_or_lt_of_le hge with e | e
      · rw [← e, h2]; exact Int.le_refl _
      · have hp := List.pairwise_iff_getElem.1 (sen_asc z s l q z.length) j0 j h1 hj e
        rw [← h2, List.getD_eq_getElem?_getD, List.getD_eq_getElem?_getD, List.getElem?_eq_getElem h1, List.getElem?_eq_getElem hj]
        exact Int.le_of_lt hp
/-- Which station is received. -/
def Rf (z : List Int) (r s : Int) (l : List Int) (q v : Int) : Prop :=
  (v = -1 ∧ (q ∈ l ∨ (∀ y ∈ l, win z s y q = false) ∨ ∃ b, Best z s l q b ∧ (win z r b q = false ∨ ∃ y ∈ l, win z s y q = true ∧ y ≠ b ∧ dst z y q < 2 * dst z b q))) ∨
  (q ∉ l ∧ Best z s l q v ∧ win z r v q = true ∧ ∀ y ∈ l, win z s y q = true → y ≠ v → 2 * dst z v q ≤ dst z y q)
theorem Best.pos {z : List Int} {s : Int} {l : List Int} {q b : Int} (h : Best z s l q b) : 0 ≤ b := (plc_iff.1 (win_iff.1 h.2.1).2.1).1
theorem Rf.eq {z : List Int} {r s : Int} {l : List Int} {q v u : Int} (h : Rf z r s l q v) (g : Rf z r s l q u) : v = u := by
  have key : ∀ {v u : Int}, (q ∉ l ∧ Best z s l q v ∧ win z r v q = true ∧ ∀ y ∈ l, win z s y q = true → y ≠ v → 2 * dst z v q ≤ dst z y q) → ¬ (q ∈ l ∨ (∀ y ∈ l, win z s y q = false) ∨ ∃ b, Best z s l q b ∧ (win z r b q = false ∨ ∃ y ∈ l, win z s y q = true ∧ y ≠ b ∧ dst z y q < 2 * dst z b q)) := by
    rintro v u ⟨h1, h2, h3, h4⟩ (g1 | g1 | ⟨b, g1, g2⟩)
    · exact h1 g1
    · have := g1 v h2.1; rw [h2.2.1] at this; cases this
    · obtain rfl := h2.eq g1
      rcases g2 with g2 | ⟨y, y1, y2, y3, y4⟩
      · rw [h3] at g2; cases g2
      · have := h4 y y1 y2 y3; omega
  rcases h with ⟨rfl, h⟩ | h <;> rcases g with ⟨rfl, g⟩ | g
  · rfl
  · exact absurd h (key (u := 0) g)
  · exact absurd g (key (u := 0) h)
  · exact h.2.1.eq g.2.1
/-- Positions far from the machine's limits. -/
def Sm (z : List Int) : Prop := ∀ x ∈ z, -1073741824 ≤ x ∧ x ≤ 1073741824
theorem at_sm {z : List Int} (h : Sm z) {a : Int} (ha : plc z a = true) : -1073741824 ≤ at_ z a ∧ at_ z a ≤ 1073741824 := by
  obtain ⟨i, rfl, hi⟩ := plc_nat ha rfl
  rw [at_nat]; exact h _ (mem_getD hi)
theorem dst_sm {z : List Int} (h : Sm z) {a b : Int} (ha : plc z a = true) (hb : plc z b = true) : dst z a b = mx (at_ z a) (at_ z b) - mn (at_ z a) (at_ z b) ∧ 0 ≤ dst z a b ∧ dst z a b ≤ 2147483648 := by
  have h1 := at_sm h ha
  have h2 := at_sm h hb
  have e : dst z a b = mx (at_ z a) (at_ z b) - mn (at_ z a) (at_ z b) := by
    rw [dst_in ha hb rfl rfl rfl rfl]
    unfold mx mn wrap64
    split <;> split <;> omega
  refine ⟨e, ?_⟩
  rw [e]
  unfold mx mn
  split <;> split <;> omega
theorem win_sm {z : List Int} (h : Sm z) {l a b : Int} (hw : win z l a b = true) : 0 ≤ dst z a b ∧ dst z a b ≤ 2147483648 := (dst_sm h (win_iff.1 hw).2.1 (win_iff.1 hw).2.2.1).2
/-- The program's test of disturbance. -/
def dis (d e : Int) : Bool := if d = e then decide (d ≠ 0) else decide (d < wrap64 (2 * e))
theorem dis_sm {d e : Int} (hd : 0 ≤ d ∧ d ≤ 2147483648) (he : 0 ≤ e ∧ e ≤ 2147483648) : dis d e = decide (d < 2 * e) := by
  unfold dis
  by_cases h : d = e
  · rw [if_pos h]; exact decide_eq_decide.2 (by omega)
  · rw [if_neg h]
    have : wrap64 (2 * e) = 2 * e := by unfold wrap64; omega
    rw [this]
end Go.Proofs.Ytejjafmppihneaa.rfm
