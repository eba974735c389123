/- The sender of block acknowledgments as numbers: what is valid, outstanding, acknowledged, given up. No program. -/
import Derived.Test.YtejjafmppihneaaKit
namespace Go.Proofs.Ytejjafmppihneaa.bs
open Go.RowKit
set_option linter.unusedVariables false

def nsq (s : Int) : Int := if 0 ≤ s ∧ s ≤ 4095 then (s + 1) % 4096 else 0
def sqd (a b : Int) : Int := if (0 ≤ a ∧ a ≤ 4095) ∧ (0 ≤ b ∧ b ≤ 4095) then (b - a) % 4096 else -1
def nwr (a b : Int) : Bool := decide (1 ≤ sqd b a ∧ sqd b a ≤ 2047)
theorem sqd_rng (a b : Int) : -1 ≤ sqd a b ∧ sqd a b ≤ 4095 := by unfold sqd; split <;> omega
theorem sqd_in {a b : Int} (ha : 0 ≤ a ∧ a ≤ 4095) (hb : 0 ≤ b ∧ b ≤ 4095) : sqd a b = (b - a) % 4096 := by unfold sqd; rw [if_pos ⟨ha, hb⟩]
theorem sqd_nn {a b : Int} (h : 0 ≤ sqd a b) : (0 ≤ a ∧ a ≤ 4095) ∧ (0 ≤ b ∧ b ≤ 4095) := by
  unfold sqd at h
  split at h
  · assumption
  · omega
/-- A sender: Start, Next, Acked. -/
structure Bs where
  st : Int
  nx : Int
  ac : Int
/-- How many frames the window holds. -/
def wd (q : Bs) : Nat := (sqd q.st q.nx).toNat
def v1 (q : Bs) : Bool := decide (0 ≤ sqd q.st q.nx ∧ sqd q.st q.nx ≤ 16)
def v2 (q : Bs) : Bool := decide (0 ≤ q.ac ∧ q.ac ≤ 2 ^ wd q - 1)
def v3 (q : Bs) : Bool := q.ac % 2 == 0
def vs (q : Bs) : Bool := v1 q && (v2 q && v3 q)
def va (s b : Int) : Bool := decide (0 ≤ s ∧ s ≤ 4095) && decide (0 ≤ b ∧ b ≤ 65535)
def ou (m w : Nat) : List Nat := (List.range w).filter fun i => !m.testBit i
def fr (s : Int) (i : Nat) : Int := (s + (i : Int)) % 4096
def outs (q : Bs) : List Int := if vs q = true then (ou q.ac.toNat (wd q)).map (fr q.st) else []
def setl (m : Nat) (L : List Nat) (c : Nat → Bool) : Nat := L.foldl (fun a i => if c i = true then a ||| 2 ^ i else a) m
def adv (s : Int) (m : Nat) : Int × Nat := if m % 2 = 1 then adv ((s + 1) % 4096) (m / 2) else (s, m)
termination_by m
decreasing_by omega
def bit (b d : Int) : Bool := b / 2 ^ d.toNat % 2 == 1
def cvr (s b x : Int) : Bool := nwr s x || (decide (0 ≤ sqd s x ∧ sqd s x ≤ 15) && bit b (sqd s x))
def aft (q : Bs) (M : Nat) : Bs := ⟨(adv q.st M).1, q.nx, (adv q.st M).2⟩
def mks (q : Bs) (c : Int → Bool) : Nat := setl q.ac.toNat (List.range (wd q)) fun i => c (fr q.st i)
def mfa (q : Bs) (s b : Int) : Bool := va s b && decide (0 ≤ sqd s q.nx ∧ sqd s q.nx ≤ 2047)
def rcv (q : Bs) (s b : Int) : Bs := if (vs q && mfa q s b) = true then aft q (mks q (cvr s b)) else q
def giv (q : Bs) (x : Int) : Bs := if x ∈ outs q then aft q (mks q (fun y => y == x)) else q
def don (q : Bs) : Bool := vs q && ((outs q).length == 0)
def ful (q : Bs) : Bool := sqd q.st q.nx == 16
def may (q : Bs) : Bool := vs q && !ful q
def snx (q : Bs) : Bs := ⟨q.st, nsq q.nx, q.ac⟩
def new (n : Int) : Bs := if 0 ≤ n ∧ n ≤ 4095 then ⟨n, n, 0⟩ else ⟨0, 0, 0⟩

/-- A valid sender of w frames with the set m. -/
structure V (q : Bs) (w m : Nat) : Prop where
  hs : 0 ≤ q.st ∧ q.st ≤ 4095
  hn : q.nx = (q.st + (w : Int)) % 4096
  hw : w ≤ 16
  ha : q.ac = (m : Int)
  hb : m < 2 ^ w
  he : m % 2 = 0
theorem V.sq {q : Bs} {w m : Nat} (h : V q w m) : sqd q.st q.nx = (w : Int) := by
  have h1 := h.hs; have h2 := h.hn; have h3 := h.hw
  rw [sqd_in h1 (by omega)]; omega
theorem V.wd {q : Bs} {w m : Nat} (h : V q w m) : wd q = w := by unfold bs.wd; rw [h.sq]; omega
theorem V.ac {q : Bs} {w m : Nat} (h : V q w m) : q.ac.toNat = m := by rw [h.ha]; omega
theorem V.vs {q : Bs} {w m : Nat} (h : V q w m) : vs q = true := by
  have h1 := h.sq; have h2 := h.wd; have h3 := h.hw; have h4 := h.ha; have h5 := h.hb; have h6 := h.he
  have h7 : ((2 ^ w : Nat) : Int) = 2 ^ w := by simp
  unfold bs.vs v1 v2 v3
  rw [h1, h2, h4, ← h7]
  simp
  omega
theorem vs_V {q : Bs} (h : vs q = true) : V q (wd q) q.ac.toNat := by
  unfold vs v1 v2 v3 at h
  simp only [Bool.and_eq_true, decide_eq_true_eq, beq_iff_eq] at h
  obtain ⟨h1, h2, h3⟩ := h
  have h4 := sqd_nn h1.1
  have h5 : (wd q : Int) = sqd q.st q.nx := by unfold wd; omega
  have h6 := sqd_in h4.1 h4.2
  have h7 : ((2 ^ wd q : Nat) : Int) = 2 ^ wd q := by simp
  rw [← h7] at h2
  exact ⟨h4.1, by omega, by omega, by omega, by omega, by omega⟩
theorem vs_of {q : Bs} (h : vs q = true) : ∃ w m, V q w m := ⟨_, _, vs_V h⟩
theorem V.outs {q : Bs} {w m : Nat} (h : V q w m) : outs q = (ou m w).map (fr q.st) := by
  unfold bs.outs; rw [if_pos h.vs, h.wd, h.ac]
theorem outs_no {q : Bs} (h : vs q = false) : outs q = [] := by unfold outs; rw [if_neg (by simp [h])]
theorem mem_ou {m w i : Nat} : i ∈ ou m w ↔ i < w ∧ m.testBit i = false := by simp [ou]
theorem ou_len (m w : Nat) : (ou m w).length ≤ w := by
  have := List.length_filter_le (fun i => !m.testBit i) (List.range w)
  simpa [ou] using this
theorem V.mk' {q : Bs} {w m : Nat} (h : V q w m) (c : Int → Bool) : mks q c = setl m (List.range w) fun i => c (fr q.st i) := by unfold mks; rw [h.wd, h.ac]
theorem setl_bit (c : Nat → Bool) (i : Nat) : ∀ (L : List Nat) (m : Nat), (setl m L c).testBit i = (m.testBit i || (decide (i ∈ L) && c i))
  | [], m => by simp [setl]
  | x :: L, m => by
    have h : setl m (x :: L) c = setl (if c x = true then m ||| 2 ^ x else m) L c := rfl
    rw [h, setl_bit c i L]
    by_cases hx : i = x
    · subst hx
      cases hc : c i <;> simp [Nat.testBit_two_pow_self]
    · have h2 : (if c x = true then m ||| 2 ^ x else m).testBit i = m.testBit i := by
        split
        · rw [Nat.testBit_or, Nat.testBit_two_pow_of_ne (fun e => hx e.symm)]; simp
        · rfl
      rw [h2]
      simp [hx]
theorem setl_lt {w m : Nat} {c : Nat → Bool} {L : List Nat} (hm : m < 2 ^ w) (hL : ∀ i ∈ L, i < w) : setl m L c < 2 ^ w := by
  induction L generalizing m with
  | nil => exact hm
  | cons x L ih =>
    refine ih (m := if c x = true then m ||| 2 ^ x else m) ?_ (fun i hi => hL i (List.mem_cons_of_mem _ hi))
    split
    · exact Nat.or_lt_two_pow hm (Nat.pow_lt_pow_right (by omega) (hL x (List.mem_cons_self ..)))
    · exact hm
theorem setl_snoc (m : Nat) (L : List Nat) (i : Nat) (c : Nat → Bool) : setl m (L ++ [i]) c = if c i = true then setl m L c ||| 2 ^ i else setl m L c := by simp [setl]
/-- Setting the bits of those that are not set yet is setting all. -/
theorem setl_ou (m w : Nat) (c : Nat → Bool) : setl m (ou m w) c = setl m (List.range w) c := by
  refine Nat.eq_of_testBit_eq fun i => ?_
  rw [setl_bit, setl_bit]
  have h1 : decide (i ∈ ou m w) = (decide (i < w) && !m.testBit i) := by
    cases h : m.testBit i <;> simp [mem_ou, h]
  rw [h1]
  cases m.testBit i <;> simp
theorem setl_one {m w i : Nat} {c : Nat → Bool} (hi : i < w) (hc : ∀ j, j < w → (c j = true ↔ j = i)) : setl m (List.range w) c = m ||| 2 ^ i := by
  refine Nat.eq_of_testBit_eq fun j => ?_
  rw [setl_bit, Nat.testBit_or]
  by_cases hj : j < w
  · by_cases he : j = i
    · subst he
      rw [(hc j hj).2 rfl, Nat.testBit_two_pow_self]; simp [hj]
    · have h2 : c j = false := by
        cases h : c j
        · rfl
        · exact absurd ((hc j hj).1 h) he
      rw [h2, Nat.testBit_two_pow_of_ne (fun e => he e.symm)]; simp
  · rw [Nat.testBit_two_pow_of_ne (fun e => hj (by omega))]; simp [hj]
theorem adv_odd {s : Int} {m : Nat} (h : m % 2 = 1) : adv s m = adv ((s + 1) % 4096) (m / 2) := by rw [adv, if_pos h]
theorem adv_even {s : Int} {m : Nat} (h : ¬ m % 2 = 1) : adv s m = (s, m) := by rw [adv, if_neg h]
theorem adv_at : ∀ (M : Nat) (s : Int) (w : Nat), 0 ≤ s ∧ s ≤ 4095 → M < 2 ^ w → ∃ t, t ≤ w ∧ adv s M = ((s + (t : Int)) % 4096, M / 2 ^ t) ∧ M / 2 ^ t % 2 = 0 ∧ ∀ i, i < t → M.testBit i = true := by
  intro M
  induction M using Nat.strongRecOn with
  | _ M ih =>
    intro s w hs hw
    by_cases h : M % 2 = 1
    · have hw1 : 1 ≤ w := by
        rcases Nat.eq_zero_or_pos w with h0 | h0
        · subst h0; simp at hw; omega
        · exact h0
      obtain ⟨v, rfl⟩ : ∃ v, w = v + 1 := ⟨w - 1, by omega⟩
      rw [Nat.pow_succ] at hw
      obtain ⟨t, h1, h2, h3, h4⟩ := ih (M / 2) (by omega) ((s + 1) % 4096) v (by omega) (by omega)
      refine ⟨t + 1, by omega, ?_, ?_, ?_⟩
      · rw [adv_odd h, h2, Nat.div_div_eq_div_mul, ← Nat.pow_succ']
        congr 1
        omega
      · rw [Nat.div_div_eq_div_mul, ← Nat.pow_succ'] at h3
        exact h3
      · intro i hi
        rcases i with _ | i
        · rw [Nat.testBit_zero]; simpa using h
        · rw [Nat.testBit_succ]; exact h4 i (by omega)
    · refine ⟨0, by omega, ?_, ?_, fun i hi => absurd hi (by omega)⟩
      · rw [adv_even h]
        simp
        omega
      · simp; omega
theorem fr_rng (s : Int) (i : Nat) : 0 ≤ fr s i ∧ fr s i ≤ 4095 := by unfold fr; omega
theorem fr_fr (s : Int) (t i : Nat) : fr ((s + (t : Int)) % 4096) i = fr s (t + i) := by unfold fr; omega
theorem fr_inj {s : Int} {i j : Nat} (hi : i < 16) (hj : j < 16) (h : fr s i = fr s j) : i = j := by unfold fr at h; omega
theorem sqd_fr {s : Int} {i : Nat} (hs : 0 ≤ s ∧ s ≤ 4095) (hi : i < 16) : sqd s (fr s i) = (i : Int) := by
  rw [sqd_in hs (fr_rng s i)]; unfold fr; omega
/-- What the window's beginning leaves out was set. -/
theorem ou_shift {M w t : Nat} (ht : t ≤ w) (h : ∀ i, i < t → M.testBit i = true) : (ou (M / 2 ^ t) (w - t)).map (t + ·) = ou M w := by
  have e1 : List.range w = List.range t ++ (List.range (w - t)).map (t + ·) := by
    rw [← List.range_add]; congr 1; omega
  have e2 : (List.range t).filter (fun i => !M.testBit i) = [] := by
    rw [List.filter_eq_nil_iff]
    intro i hi
    rw [h i (by simpa using hi)]; simp
  unfold ou
  rw [e1, List.filter_append, e2, List.nil_append, List.filter_map]
  congr 1
  refine List.filter_congr fun i _ => ?_
  simp [Function.comp, Nat.testBit_div_two_pow, Nat.add_comm]
structure Af (q x : Bs) (M w : Nat) : Prop where
  ex : ∃ t v m, t ≤ w ∧ V x v m ∧ v = w - t ∧ m = M / 2 ^ t ∧ x.st = (q.st + (t : Int)) % 4096 ∧ ∀ i, i < t → M.testBit i = true
  n : x.nx = q.nx
  o : outs x = (ou M w).map (fr q.st)
theorem V.aft {q : Bs} {w m M : Nat} (h : V q w m) (hM : M < 2 ^ w) : Af q (aft q M) M w := by
  obtain ⟨t, h1, h2, h3, h4⟩ := adv_at M q.st w h.hs hM
  have e1 : bs.aft q M = ⟨(q.st + (t : Int)) % 4096, q.nx, ((M / 2 ^ t : Nat) : Int)⟩ := by unfold bs.aft; rw [h2]
  have hV : V (bs.aft q M) (w - t) (M / 2 ^ t) := by
    rw [e1]
    refine ⟨by dsimp only; omega, ?_, by have := h.hw; omega, rfl, ?_, h3⟩
    · have := h.hn; dsimp only; omega
    · rw [Nat.div_lt_iff_lt_mul (Nat.pow_pos (by omega)), ← Nat.pow_add, Nat.sub_add_cancel h1]; exact hM
  refine ⟨⟨t, _, _, h1, hV, rfl, rfl, by rw [e1], h4⟩, rfl, ?_⟩
  rw [hV.outs, ← ou_shift h1 h4, List.map_map, e1]
  refine List.map_congr_left fun i _ => ?_
  simp only [Function.comp]
  exact fr_fr _ _ _
theorem ou_setl (m w : Nat) (c : Nat → Bool) : ou (setl m (List.range w) c) w = (ou m w).filter fun i => !c i := by
  unfold ou
  rw [List.filter_filter]
  refine List.filter_congr fun i hi => ?_
  rw [setl_bit]
  have : decide (i ∈ List.range w) = true := by simpa using hi
  rw [this]
  cases m.testBit i <;> simp
theorem mks_lt {q : Bs} {w m : Nat} (h : V q w m) (c : Int → Bool) : mks q c < 2 ^ w := by
  rw [h.mk']; exact setl_lt h.hb fun i hi => by simpa using hi
theorem V.mko {q : Bs} {w m : Nat} (h : V q w m) (c : Int → Bool) : bs.outs (bs.aft q (mks q c)) = (bs.outs q).filter fun y => !c y := by
  rw [(h.aft (mks_lt h c)).o, h.mk', ou_setl, h.outs, List.filter_map]
  rfl
theorem V.valid {q : Bs} {w m M : Nat} (h : V q w m) (hM : M < 2 ^ w) : bs.vs (bs.aft q M) = true := by
  obtain ⟨t, v, m', _, hv, _⟩ := (h.aft hM).ex
  exact hv.vs
theorem V.none {q : Bs} {w m : Nat} (h : V q w m) (ho : bs.outs q = []) : q.st = q.nx := by
  rw [h.outs, List.map_eq_nil_iff] at ho
  have hw : w = 0 := by
    rcases Nat.eq_zero_or_pos w with h0 | h0
    · exact h0
    · have : 0 ∈ ou m w := mem_ou.2 ⟨h0, by rw [Nat.testBit_zero]; have := h.he; simp; omega⟩
      rw [ho] at this
      cases this
  have h1 := h.hs; have h2 := h.hn
  subst hw
  simp at h2
  omega
/-- Again the same acknowledgment: nothing changes. -/
theorem V.again {q : Bs} {w m : Nat} (h : V q w m) (c : Int → Bool) : bs.aft (bs.aft q (mks q c)) (mks (bs.aft q (mks q c)) c) = bs.aft q (mks q c) := by
  have hA := h.aft (mks_lt h c)
  generalize hx : bs.aft q (mks q c) = x at hA ⊢
  obtain ⟨t, v, m', h1, hv, h2, h3, h4, h5⟩ := hA.ex
  have e : mks x c = m' := by
    rw [hv.mk']
    refine Nat.eq_of_testBit_eq fun i => ?_
    rw [setl_bit]
    by_cases hi : i < v
    · cases hc : c (fr x.st i)
      · simp
      · have : m'.testBit i = true := by
          rw [h3, Nat.testBit_div_two_pow, h.mk', setl_bit]
          have e1 : fr x.st i = fr q.st (i + t) := by rw [h4, fr_fr, Nat.add_comm]
          rw [← e1, hc]
          have : i + t < w := by omega
          simp [this]
        rw [this]; simp
    · simp [hi]
  rw [e]
  unfold bs.aft
  rw [adv_even (by have := hv.he; omega)]
  have := hv.ha
  obtain ⟨a, b, d⟩ := x
  dsimp only at this ⊢
  rw [this]
/-- Giving up the first outstanding frame. -/
theorem V.drop {q : Bs} {w m : Nat} {x : Int} {r : List Int} (h : V q w m) (ho : bs.outs q = x :: r) : ∃ v m', V (giv q x) v m' ∧ bs.outs (giv q x) = r ∧ (giv q x).nx = q.nx := by
  have hmem : x ∈ bs.outs q := by rw [ho]; exact List.mem_cons_self ..
  have e : giv q x = bs.aft q (mks q fun y => y == x) := by unfold giv; rw [if_pos hmem]
  obtain ⟨t, v, m', _, hv, _⟩ := (h.aft (mks_lt h fun y => y == x)).ex
  refine ⟨v, m', by rw [e]; exact hv, ?_, by rw [e]; rfl⟩
  rw [e, h.mko, ho]
  have hn : (bs.outs q).Nodup := by
    rw [h.outs]
    refine List.pairwise_map.2 ?_
    refine List.Pairwise.imp_of_mem (R := (· ≠ ·)) ?_ (List.Pairwise.filter _ List.nodup_range)
    intro a b ha hb hab e
    have h1 := h.hw
    have h2 := (mem_ou.1 ha).1
    have h3 := (mem_ou.1 hb).1
    exact hab (fr_inj (by omega) (by omega) e)
  rw [ho] at hn
  have hx : ∀ y ∈ r, ¬ y = x := fun y hy e => (List.nodup_cons.1 hn).1 (e ▸ hy)
  rw [List.filter_cons_of_neg (by simp), List.filter_eq_self]
  intro y hy
  simp [hx y hy]
theorem foldl_take (q : Bs) (L : List Int) {k : Nat} (h : k < L.length) : (L.take (k + 1)).foldl giv q = giv ((L.take k).foldl giv q) (L.getD k 0) := by
  rw [List.take_add_one, List.foldl_append, List.getD_eq_getElem?_getD, List.getElem?_eq_getElem h]
  rfl
/-- Giving up all. -/
theorem V.all : ∀ (L : List Int) (q : Bs) (w m : Nat), V q w m → bs.outs q = L → ∃ v m', V (L.foldl giv q) v m' ∧ bs.outs (L.foldl giv q) = [] ∧ (L.foldl giv q).nx = q.nx
  | [], q, w, m, h, ho => ⟨w, m, h, ho, rfl⟩
  | x :: L, q, w, m, h, ho => by
    obtain ⟨v, m', h1, h2, h3⟩ := h.drop ho
    obtain ⟨v2, m2, h4, h5, h6⟩ := V.all L (giv q x) v m' h1 h2
    exact ⟨v2, m2, h4, h5, h6.trans h3⟩
theorem all_done {q : Bs} (h : vs q = true) : don ((outs q).foldl giv q) = true ∧ ((outs q).foldl giv q).st = q.nx := by
  obtain ⟨w, m, hV⟩ := vs_of h
  obtain ⟨v, m', h1, h2, h3⟩ := V.all _ q w m hV rfl
  refine ⟨?_, (h1.none h2).trans h3⟩
  unfold don
  rw [h1.vs, h2]
  rfl
theorem V.sent {q : Bs} {w m : Nat} (h : V q w m) (hw : w < 16) : V (snx q) (w + 1) m ∧ q.nx ∈ bs.outs (snx q) := by
  have hs := h.hs
  have hn := h.hn
  have hb := h.hb
  have hV : V (snx q) (w + 1) m := by
    refine ⟨hs, ?_, by omega, h.ha, by rw [Nat.pow_succ]; omega, h.he⟩
    show nsq q.nx = (q.st + ((w + 1 : Nat) : Int)) % 4096
    unfold nsq
    rw [if_pos (by omega)]
    omega
  refine ⟨hV, ?_⟩
  rw [hV.outs, List.mem_map]
  exact ⟨w, mem_ou.2 ⟨by omega, Nat.testBit_lt_two_pow hb⟩, hn.symm⟩
theorem may_V {q : Bs} (h : may q = true) : ∃ w m, V q w m ∧ w < 16 := by
  unfold may at h
  rw [Bool.and_eq_true] at h
  obtain ⟨w, m, hV⟩ := vs_of h.1
  refine ⟨w, m, hV, ?_⟩
  have h1 := h.2
  unfold ful at h1
  rw [hV.sq] at h1
  have := hV.hw
  simp at h1
  omega
theorem sent {q : Bs} (h : may q = true) : vs (snx q) = true ∧ q.nx ∈ outs (snx q) := by
  obtain ⟨w, m, hV, hw⟩ := may_V h
  exact ⟨(hV.sent hw).1.vs, (hV.sent hw).2⟩
/-- What an acknowledgment leaves. -/
theorem rcv_ok {q : Bs} (s b : Int) (h : vs q = true) : vs (rcv q s b) = true ∧ (rcv q s b).nx = q.nx ∧ (∀ y ∈ outs (rcv q s b), y ∈ outs q) ∧ rcv (rcv q s b) s b = rcv q s b := by
  obtain ⟨w, m, hV⟩ := vs_of h
  by_cases hc : (vs q && mfa q s b) = true
  · have e : rcv q s b = aft q (mks q (cvr s b)) := by unfold rcv; rw [if_pos hc]
    have h1 := hV.valid (mks_lt hV (cvr s b))
    refine ⟨by rw [e]; exact h1, by rw [e]; rfl, ?_, ?_⟩
    · intro y hy
      rw [e, hV.mko] at hy
      exact (List.mem_filter.1 hy).1
    · have h2 : (vs (aft q (mks q (cvr s b))) && mfa (aft q (mks q (cvr s b))) s b) = true := by
        rw [h1]
        rw [Bool.and_eq_true] at hc
        exact hc.2
      rw [e]
      unfold rcv
      rw [if_pos h2]
      exact hV.again _
  · have e : rcv q s b = q := by unfold rcv; rw [if_neg hc]
    refine ⟨by rw [e]; exact h, by rw [e], fun y hy => by rw [e] at hy; exact hy, by rw [e, e]⟩
theorem outs_len (q : Bs) : (outs q).length ≤ 16 := by
  cases h : vs q
  · rw [outs_no h]; simp
  · obtain ⟨w, m, hV⟩ := vs_of h
    rw [hV.outs, List.length_map]
    have := ou_len m w
    have := hV.hw
    omega
theorem outs_in (q : Bs) : ∀ y ∈ outs q, 0 ≤ y ∧ y ≤ 4095 := by
  intro y hy
  cases h : vs q
  · rw [outs_no h] at hy; cases hy
  · obtain ⟨w, m, hV⟩ := vs_of h
    rw [hV.outs, List.mem_map] at hy
    obtain ⟨i, _, rfl⟩ := hy
    exact fr_rng _ _
/-- Steps of the program's loops. -/
theorem ou_zero (m : Nat) : ou m 0 = [] := rfl
theorem ou_yes {m k : Nat} (h : m.testBit k = false) : ou m (k + 1) = ou m k ++ [k] := by simp [ou, List.range_succ, h]
theorem ou_no {m k : Nat} (h : m.testBit k = true) : ou m (k + 1) = ou m k := by simp [ou, List.range_succ, h]
theorem setr_yes {m k : Nat} {c : Nat → Bool} (h : c k = true) : setl m (List.range (k + 1)) c = setl m (List.range k) c ||| 2 ^ k := by rw [List.range_succ, setl_snoc, if_pos h]
theorem setr_no {m k : Nat} {c : Nat → Bool} (h : c k = false) : setl m (List.range (k + 1)) c = setl m (List.range k) c := by rw [List.range_succ, setl_snoc, if_neg (by simp [h])]
theorem sett_yes {m j i : Nat} {L : List Nat} {c : Nat → Bool} (hj : L[j]? = some i) (h : c i = true) : setl m (L.take (j + 1)) c = setl m (L.take j) c ||| 2 ^ i := by rw [List.take_add_one, hj]; show setl m (L.take j ++ [i]) c = _; rw [setl_snoc, if_pos h]
theorem sett_no {m j i : Nat} {L : List Nat} {c : Nat → Bool} (hj : L[j]? = some i) (h : c i = false) : setl m (L.take (j + 1)) c = setl m (L.take j) c := by rw [List.take_add_one, hj]; show setl m (L.take j ++ [i]) c = _; rw [setl_snoc, if_neg (by simp [h])]
theorem bit_test (m i : Nat) (d : Int) (hd : d = (i : Int)) : bit (m : Int) d = m.testBit i := by
  unfold bit
  subst hd
  rw [Nat.testBit_eq_decide_div_mod_eq, Int.toNat_natCast]
  have h7 : ((2 ^ i : Nat) : Int) = 2 ^ i := by simp
  rw [← h7, Bool.eq_iff_iff, beq_iff_eq, decide_eq_true_eq]
  generalize 2 ^ i = p
  omega
theorem or_pow {a i : Nat} (ha : a < 65536) (hi : i < 16) : bits .or .i64 (a : Int) (wrap64 (2 ^ i)) = ((a ||| 2 ^ i : Nat) : Int) := by
  have h7 : ((2 ^ i : Nat) : Int) = 2 ^ i := by simp
  have h2 : 2 ^ i < 2 ^ 16 := Nat.pow_lt_pow_right (by omega) hi
  rw [← h7]
  generalize 2 ^ i = p at h2
  have h3 : wrap64 (p : Int) = (p : Int) := by unfold wrap64; omega
  rw [h3]
  exact (bits_nat .i64 62 (by decide) (fun n h0 h1 => by rw [IntKind.wrap_i64]; omega) a p (by omega) (by omega)).2
end Go.Proofs.Ytejjafmppihneaa.bs
