/- The decoded bits: the best path's bits, whose distance is the least; up to two inverted symbols are corrected. Condition: none (no program). -/
import Derived.Test.YtdelpepepbkjmaaVitm
namespace Go.Proofs.Ytdelpepepbkjmaa.vit
open Go.RowKit sl bm cvm
set_option linter.unusedVariables false

/-- The best path to a state. -/
def path (zs : List Int) : Nat → Int → List Int
  | 0, _ => []
  | k + 1, t => path zs k (pre zs k t) ++ [t % 2]
theorem path_len (zs : List Int) : ∀ (k : Nat) (t : Int), (path zs k t).length = k
  | 0, _ => rfl
  | k + 1, t => by simp [path, path_len zs k]
theorem take_two {zs : List Int} {k : Nat} (h : 2 * (k + 1) ≤ zs.length) : zs.take (2 * (k + 1)) = zs.take (2 * k) ++ [zs.getD (2 * k) 0, zs.getD (2 * k + 1) 0] := by
  rw [show 2 * (k + 1) = 2 * k + 1 + 1 by omega, take_one (by omega), take_one (by omega), List.append_assoc]; rfl
theorem hd_two (b1 b2 x y : Int) : hd [b1, b2] [x, y] = sd b1 x + sd b2 y := by simp [hd]
theorem hd_step {zs p : List Int} {k : Nat} {b : Int} (hz : 2 * (k + 1) ≤ zs.length) (hp : p.length = k) (hs : Sb (fin 0 p) b) :
    hd (cw 0 (p ++ [b])) (zs.take (2 * (k + 1))) = hd (cw 0 p) (zs.take (2 * k)) + bd (fin 0 p) b (zs.getD (2 * k) 0) (zs.getD (2 * k + 1) 0) := by
  rw [cw_append, take_two hz, hd_append _ _ _ _ (by rw [cw_len, List.length_take]; omega)]
  show _ + hd [op1 (fin 0 p) b, op2 (fin 0 p) b] _ = _
  rw [hd_two]
  unfold bd
  rw [outp_yes hs]
/-- A state that is reached, at a step. -/
def Live (zs : List Int) (k : Nat) (t : Int) : Prop := (0 ≤ t ∧ t ≤ 3) ∧ 0 ≤ cost zs k t
theorem Live.pre {zs : List Int} {k : Nat} {t : Int} (h : Live zs (k + 1) t) : Live zs k (vit.pre zs k t) ∧ nst (vit.pre zs k t) (t % 2) = t ∧ cost zs (k + 1) t = cost zs k (vit.pre zs k t) + bd (vit.pre zs k t) (t % 2) (zs.getD (2 * k) 0) (zs.getD (2 * k + 1) 0) := by
  obtain ⟨h1, h2⟩ := h
  obtain ⟨g1, g2, g3, g4⟩ := from_ok h1 (show 0 ≤ part (cost zs k) (zs.getD (2 * k) 0) (zs.getD (2 * k + 1) 0) 4 t from h2)
  exact ⟨⟨g2, g1⟩, g3, g4⟩
theorem Live.zero {zs : List Int} {t : Int} (h : Live zs 0 t) : t = 0 := by
  have h2 := h.2
  unfold cost at h2
  split at h2
  · assumption
  · omega
theorem path_ok (zs : List Int) : ∀ (k : Nat) (t : Int), 2 * k ≤ zs.length → Live zs k t → (∀ z ∈ path zs k t, 0 ≤ z ∧ z ≤ 1) ∧ fin 0 (path zs k t) = t ∧ hd (cw 0 (path zs k t)) (zs.take (2 * k)) = cost zs k t
  | 0, t, _, h => by
    have := h.zero
    subst this
    exact ⟨fun z hz => (by cases hz), rfl, by simp [path, cw, hd, cost]⟩
  | k + 1, t, hz, h => by
    obtain ⟨g1, g2, g3⟩ := h.pre
    obtain ⟨i1, i2, i3⟩ := path_ok zs k _ (by omega) g1
    have hs : Sb (pre zs k t) (t % 2) := ⟨g1.1, by omega⟩
    refine ⟨fun z hz => ?_, ?_, ?_⟩
    · rcases List.mem_append.1 (show z ∈ path zs k (pre zs k t) ++ [t % 2] from hz) with hz | hz
      · exact i1 z hz
      · have : z = t % 2 := by simpa using hz
        omega
    · show fin 0 (path zs k (pre zs k t) ++ [t % 2]) = t
      rw [fin_append, i2]; exact g2
    · show hd (cw 0 (path zs k (pre zs k t) ++ [t % 2])) _ = _
      rw [hd_step hz (path_len zs k _) (by rw [i2]; exact hs), i2, i3, g3]
theorem best (zs : List Int) : ∀ (k : Nat) (p : List Int), p.length = k → 2 * k ≤ zs.length → (∀ z ∈ p, 0 ≤ z ∧ z ≤ 1) → Live zs k (fin 0 p) ∧ cost zs k (fin 0 p) ≤ hd (cw 0 p) (zs.take (2 * k))
  | 0, p, hp, _, _ => by
    have := List.eq_nil_of_length_eq_zero hp
    subst this
    exact ⟨⟨by simp [fin], by simp [fin, cost]⟩, by simp [fin, cw, hd, cost]⟩
  | k + 1, p, hp, hz, hb => by
    rcases List.eq_nil_or_concat p with rfl | ⟨q, b, e⟩
    · simp at hp
    · rw [List.concat_eq_append] at e
      subst e
      have hq : q.length = k := by simpa using hp
      obtain ⟨i1, i2⟩ := best zs k q hq (by omega) fun z hz => hb z (List.mem_append_left _ hz)
      have hs : Sb (fin 0 q) b := ⟨i1.1, hb b (by simp)⟩
      have hl := part_least (x := zs.getD (2 * k) 0) (y := zs.getD (2 * k + 1) 0) hs i1.2
      have ef : fin 0 (q ++ [b]) = nst (fin 0 q) b := by rw [fin_append]; rfl
      rw [hd_step hz hq hs, ef]
      have hc : cost zs (k + 1) (nst (fin 0 q) b) = part (cost zs k) (zs.getD (2 * k) 0) (zs.getD (2 * k + 1) 0) 4 (nst (fin 0 q) b) := rfl
      exact ⟨⟨nst_in _ _, by omega⟩, by omega⟩
/-- The decoded bits. -/
def dec (zs : List Int) (n : Nat) : List Int := (path zs (n + 2) 0).take n
theorem dec_len (zs : List Int) (n : Nat) : (dec zs n).length = n := by rw [dec, List.length_take, path_len]; omega
theorem fin_tail (l : List Int) : fin 0 (tail l) = 0 := by
  unfold tail; rw [fin_append]; show nst (nst _ 0) 0 = 0; unfold nst; omega
theorem end_live {zs : List Int} {n : Nat} (hz : zs.length = 2 * (n + 2)) : Live zs (n + 2) 0 := by
  have := (best zs (n + 2) (tail (List.replicate n 0)) (by simp [tail]) (by omega) fun z hz => by
    rcases List.mem_append.1 hz with hz | hz
    · have := List.eq_of_mem_replicate hz; omega
    · simp at hz; omega).1
  rwa [fin_tail] at this
theorem path_tail {zs : List Int} {n : Nat} (hz : zs.length = 2 * (n + 2)) : path zs (n + 2) 0 = tail (dec zs n) := by
  obtain ⟨g1, g2, _⟩ := (end_live hz).pre
  have h0 : pre zs (n + 1) 0 % 2 = 0 := by
    have h3 := g1.1
    unfold nst at g2; omega
  unfold dec tail
  show path zs n _ ++ [pre zs (n + 1) 0 % 2] ++ [0 % 2] = _
  rw [show path zs (n + 2) 0 = path zs n (pre zs n (pre zs (n + 1) 0)) ++ [pre zs (n + 1) 0 % 2] ++ [0 % 2] from rfl, h0, List.append_assoc, List.take_append_of_le_length (by rw [path_len]; exact Nat.le_refl _), List.take_of_length_le (by rw [path_len]; exact Nat.le_refl _)]
  rfl
theorem dec_bit {zs : List Int} {n : Nat} (hz : zs.length = 2 * (n + 2)) : isb (dec zs n) = true := (isb_iff _).2 fun z h => (path_ok zs (n + 2) 0 (by omega) (end_live hz)).1 z (List.mem_of_mem_take h)
theorem dec_hd {zs : List Int} {n : Nat} (hz : zs.length = 2 * (n + 2)) : hd (conv (dec zs n)) zs = cost zs (n + 2) 0 := by
  have := (path_ok zs (n + 2) 0 (by omega) (end_live hz)).2.2
  rw [path_tail hz, ← hz, List.take_length] at this
  rw [conv_yes (dec_bit hz)]; exact this
theorem dec_best {zs ys : List Int} {n : Nat} (hz : zs.length = 2 * (n + 2)) (hy : isb ys = true) (hl : ys.length = n) : cost zs (n + 2) 0 ≤ hd (conv ys) zs := by
  have := (best zs (n + 2) (tail ys) (by rw [tail_len, hl]) (by omega) (isb_all (tail_isb hy))).2
  rw [fin_tail, ← hz, List.take_length] at this
  rw [conv_yes hy]; exact this
theorem dec_nn {zs : List Int} {n : Nat} (hz : zs.length = 2 * (n + 2)) : 0 ≤ cost zs (n + 2) 0 := (end_live hz).2
/-- How many bits some symbols stand for. -/
def inl (c : Int) : Int := if (4 ≤ c ∧ c ≤ 2004) ∧ c % 2 = 0 then c / 2 - 2 else -1
theorem inl_yes {c : Int} (h : (4 ≤ c ∧ c ≤ 2004) ∧ c % 2 = 0) : inl c = c / 2 - 2 := if_pos h
theorem inl_no {c : Int} (h : ¬ ((4 ≤ c ∧ c ≤ 2004) ∧ c % 2 = 0)) : inl c = -1 := if_neg h
theorem inl_in (c : Int) : -1 ≤ inl c ∧ inl c ≤ 1000 := by unfold inl; split <;> omega
theorem inl_nat {m n : Nat} (h : inl m = n) : m = 2 * (n + 2) ∧ n ≤ 1000 := by unfold inl at h; split at h <;> omega
theorem inl_enc {n : Nat} (h : n ≤ 1000) : inl ((2 * (n + 2) : Nat) : Int) = n := by rw [inl_yes (by omega)]; omega
/-- The distance of bits to symbols. -/
def pd (l zs : List Int) : Int := if (isb l = true ∧ inr zs 0 2 = true) ∧ (zs.length : Int) = enl l.length then hd (conv l) zs else -1
theorem pd_yes {l zs : List Int} (h : (isb l = true ∧ inr zs 0 2 = true) ∧ (zs.length : Int) = enl l.length) : pd l zs = hd (conv l) zs := if_pos h
theorem pd_no {l zs : List Int} (h : ¬ ((isb l = true ∧ inr zs 0 2 = true) ∧ (zs.length : Int) = enl l.length)) : pd l zs = -1 := if_neg h
theorem pd_in (l zs : List Int) : -1 ≤ pd l zs ∧ pd l zs ≤ 2 * ((l.length : Int) + 2) := by
  unfold pd
  split
  · have := hd_in (conv l) zs
    have := conv_len l
    omega
  · omega
/-- What is decoded. -/
def vit (zs : List Int) : List Int × Int := if 0 ≤ inl zs.length ∧ inr zs 0 2 = true then (dec zs (inl zs.length).toNat, cost zs ((inl zs.length).toNat + 2) 0) else ([], -1)
theorem vit_yes {zs : List Int} {n : Nat} (h : inl zs.length = n) (hs : inr zs 0 2 = true) : vit zs = (dec zs n, cost zs (n + 2) 0) := by
  unfold vit; rw [h, if_pos ⟨by omega, hs⟩, Int.toNat_natCast]
theorem vit_no {zs : List Int} (h : ¬ (0 ≤ inl zs.length ∧ inr zs 0 2 = true)) : vit zs = ([], -1) := if_neg h
theorem vit_cases (zs : List Int) : (∃ n : Nat, inl zs.length = n ∧ inr zs 0 2 = true) ∨ ¬ (0 ≤ inl zs.length ∧ inr zs 0 2 = true) := by
  by_cases h : 0 ≤ inl zs.length ∧ inr zs 0 2 = true
  · exact Or.inl ⟨(inl zs.length).toNat, by omega, h.2⟩
  · exact Or.inr h
theorem pd_dec {zs : List Int} {n : Nat} (h : inl zs.length = n) (hs : inr zs 0 2 = true) : pd (dec zs n) zs = cost zs (n + 2) 0 := by
  obtain ⟨h1, h2⟩ := inl_nat h
  rw [pd_yes ⟨⟨dec_bit h1, hs⟩, by rw [dec_len, enl_yes (by omega)]; omega⟩, dec_hd h1]
theorem pd_best {zs ys : List Int} {n : Nat} (h : inl zs.length = n) (hs : inr zs 0 2 = true) (hy : isb ys = true) (hl : ys.length = n) : cost zs (n + 2) 0 ≤ pd ys zs := by
  obtain ⟨h1, h2⟩ := inl_nat h
  rw [pd_yes ⟨⟨hy, hs⟩, by rw [hl, enl_yes (by omega)]; omega⟩]
  exact dec_best h1 hy hl
/-- The weight of a word from a state to state 0. -/
theorem wt_cons (x : Int) (l : List Int) : wt (x :: l) = (if x = 1 then 1 else 0) + wt l := by
  unfold wt
  rw [List.countP_cons]
  by_cases h : x = 1
  · simp [h]; omega
  · simp [h]
def phi (s : Int) : Int := if s = 0 then 0 else if s = 2 then 2 else 3
theorem phi_le : ∀ (p : List Int) (s : Int), 0 ≤ s ∧ s ≤ 3 → (∀ z ∈ p, 0 ≤ z ∧ z ≤ 1) → fin s p = 0 → phi s ≤ wt (cw s p)
  | [], s, _, _, h => by
    have : s = 0 := h
    subst this
    decide
  | b :: r, s, hs, hb, h => by
    have hb0 := hb b (List.mem_cons_self ..)
    have ih := phi_le r (nst s b) (nst_in s b) (fun z hz => hb z (List.mem_cons_of_mem _ hz)) h
    show _ ≤ wt (op1 s b :: op2 s b :: cw (nst s b) r)
    rw [wt_cons, wt_cons]
    have hs4 : s = 0 ∨ s = 1 ∨ s = 2 ∨ s = 3 := by omega
    have hb2 : b = 0 ∨ b = 1 := by omega
    generalize cw (nst s b) r = q at ih ⊢
    generalize wt q = g at ih ⊢
    rcases hs4 with rfl | rfl | rfl | rfl <;> rcases hb2 with rfl | rfl <;> revert ih <;> simp [phi, op1, op2, nst] <;> omega
theorem five : ∀ (p : List Int), (∀ z ∈ p, 0 ≤ z ∧ z ≤ 1) → fin 0 p = 0 → (∃ z ∈ p, z ≠ 0) → 5 ≤ wt (cw 0 p)
  | [], _, _, ⟨z, hz, _⟩ => by cases hz
  | b :: r, hb, h, ⟨z, hz, hne⟩ => by
    have hb0 := hb b (List.mem_cons_self ..)
    have hr := fun z hz => hb z (List.mem_cons_of_mem b hz)
    have hb2 : b = 0 ∨ b = 1 := by omega
    show _ ≤ wt (op1 0 b :: op2 0 b :: cw (nst 0 b) r)
    rw [wt_cons, wt_cons]
    rcases hb2 with rfl | rfl
    · have ih := five r hr h (by
        rcases List.mem_cons.1 hz with rfl | hz
        · exact absurd rfl hne
        · exact ⟨z, hz, hne⟩)
      have e : nst 0 0 = 0 := by decide
      rw [e]
      have : op1 0 0 = 0 := by decide
      have : op2 0 0 = 0 := by decide
      simp [*]
    · have ih := phi_le r (nst 0 1) (nst_in 0 1) hr h
      have e : nst 0 1 = 1 := by decide
      rw [e] at ih ⊢
      have e1 : op1 0 1 = 1 := by decide
      have e2 : op2 0 1 = 1 := by decide
      have e3 : phi 1 = 3 := by decide
      rw [e1, e2]; rw [e3] at ih
      simp; omega
theorem xor_ne : ∀ (a b : List Int), (∀ z ∈ a, 0 ≤ z ∧ z ≤ 1) → (∀ z ∈ b, 0 ≤ z ∧ z ≤ 1) → a.length = b.length → a ≠ b → ∃ z ∈ xorB a b, z ≠ 0
  | [], [], _, _, _, h => absurd rfl h
  | [], _ :: _, _, _, h, _ => by simp at h
  | _ :: _, [], _, _, h, _ => by simp at h
  | x :: a, y :: b, ha, hb, hl, hne => by
    have e : xorB (x :: a) (y :: b) = bx x y :: xorB a b := rfl
    have hx := ha x (List.mem_cons_self ..)
    have hy := hb y (List.mem_cons_self ..)
    by_cases hxy : x = y
    · subst hxy
      obtain ⟨z, hz, h⟩ := xor_ne a b (fun z hz => ha z (List.mem_cons_of_mem _ hz)) (fun z hz => hb z (List.mem_cons_of_mem _ hz)) (by simpa using hl) (fun h => hne (by rw [h]))
      exact ⟨z, by rw [e]; exact List.mem_cons_of_mem _ hz, h⟩
    · refine ⟨bx x y, by rw [e]; exact List.mem_cons_self .., ?_⟩
      rw [bx_in hx hy]; omega
/-- Two code words differ in at least five symbols. -/
theorem apart {a b : List Int} (ha : isb a = true) (hb : isb b = true) (hl : a.length = b.length) (hne : a ≠ b) : 5 ≤ diff (conv a) (conv b) := by
  rw [← wt_xor _ _ (conv_bit a) (conv_bit b), conv_lin ha hb hl, conv_yes (xor_isb ha hb)]
  refine five _ (isb_all (tail_isb (xor_isb ha hb))) (fin_tail _) ?_
  obtain ⟨z, hz, h⟩ := xor_ne a b (isb_all ha) (isb_all hb) hl hne
  exact ⟨z, List.mem_append_left _ hz, h⟩
theorem hd_diff : ∀ (a b : List Int), (∀ z ∈ b, z ≠ 2) → hd a b = diff a b
  | [], b, _ => by simp [hd, diff]
  | _ :: _, [], _ => by simp [hd, diff]
  | x :: a, y :: b, h => by
    have ih := hd_diff a b fun z hz => h z (List.mem_cons_of_mem _ hz)
    have hy := h y (List.mem_cons_self ..)
    simp only [hd, diff, ih]
    unfold sd
    by_cases hxy : x = y
    · rw [if_pos (Or.inl hxy.symm), if_pos hxy]
    · rw [if_neg (by intro g; rcases g with g | g; exact hxy g.symm; exact hy g), if_neg hxy]
theorem diff_tri : ∀ (a b c : List Int), a.length = c.length → b.length = c.length → diff a b ≤ diff a c + diff b c
  | [], b, c, _, _ => by
    have h1 := diff_in [] c
    have h2 := diff_in b c
    have : diff [] b = 0 := by simp [diff]
    omega
  | _ :: _, [], [], h, _ => by simp at h
  | _ :: _, _ :: _, [], h, _ => by simp at h
  | _ :: _, [], _ :: _, _, h => by simp at h
  | x :: a, y :: b, z :: c, h, g => by
    have ih := diff_tri a b c (by simpa using h) (by simpa using g)
    simp only [diff]
    by_cases h1 : x = z
    · by_cases h2 : y = z
      · subst h1; subst h2; simp; omega
      · subst h1
        rw [if_neg (fun g => h2 g.symm), if_pos rfl, if_neg h2]; omega
    · rw [if_neg h1]
      by_cases h2 : x = y
      · rw [if_pos h2]; split <;> omega
      · rw [if_neg h2]; split <;> omega
/-- Up to two inverted symbols are corrected. -/
theorem corrects {l zs : List Int} {n : Nat} (hl : isb l = true) (hn : l.length = n) (hz : zs.length = 2 * (n + 2)) (hb : ∀ z ∈ zs, z ≠ 2) {d : Int} (hd' : diff (conv l) zs = d) (h2 : d ≤ 2) : dec zs n = l ∧ cost zs (n + 2) 0 = d := by
  have hb1 := dec_best hz hl hn
  rw [hd_diff _ _ hb, hd'] at hb1
  have he := dec_hd hz
  rw [hd_diff _ _ hb] at he
  have e : dec zs n = l := by
    by_cases g : dec zs n = l
    · exact g
    · exfalso
      have h5 := apart (dec_bit hz) hl (by rw [dec_len, hn]) g
      have ht := diff_tri (conv (dec zs n)) (conv l) zs (by rw [conv_len_yes (dec_bit hz), dec_len, hz]) (by rw [conv_len_yes hl, hn, hz])
      omega
  exact ⟨e, by rw [← he, e, hd']⟩
theorem diff_self : ∀ (a : List Int), diff a a = 0
  | [] => by simp [diff]
  | x :: a => by simp [diff, diff_self a]
theorem diff_set : ∀ (a b : List Int) (i : Nat) (v : Int), i < a.length → i < b.length → diff a (b.set i v) = diff a b - (if a.getD i 0 = b.getD i 0 then 0 else 1) + (if a.getD i 0 = v then 0 else 1)
  | [], _, _, _, h, _ => by simp at h
  | _ :: _, [], _, _, _, h => by simp at h
  | x :: a, y :: b, 0, v, _, _ => by
    simp only [List.set_cons_zero, diff, List.getD_cons_zero]; omega
  | x :: a, y :: b, i + 1, v, h, g => by
    have ih := diff_set a b i v (by simpa using h) (by simpa using g)
    simp only [List.set_cons_succ, diff, List.getD_cons_succ, ih]; omega
end Go.Proofs.Ytdelpepepbkjmaa.vit
