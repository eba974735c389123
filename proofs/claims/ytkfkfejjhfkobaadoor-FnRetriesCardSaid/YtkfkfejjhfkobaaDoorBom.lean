/- Backoff as numbers: what is valid, a new wait, a tick, what follows a failure or a success. No program. -/
import Derived.Test.YtkfkfejjhfkobaaDoorAcm
import Derived.Test.YtkfkfejjhfkobaaDoorKeyed
namespace Go.Proofs.YtkfkfejjhfkobaaDoor.bom
open Go.RowKit acm
set_option linter.unusedVariables false

/-- A backoff: the parameters, the window, the wait, the idle slots, the retries, the draws. -/
structure Bo where
  a : Int
  b : Int
  c : Int
  d : Int
  x : Int
  t : Int
  j : Int
  r : Int
  n : Int
/-- The windows that failures lead to. -/
def rea (b c x : Int) : Bool := win x && decide (b ≤ x ∧ x ≤ c)
def vb (q : Bo) : Bool := vp q.a q.b q.c q.d && rea q.b q.c q.x && decide (0 ≤ q.t ∧ q.t ≤ q.x) && decide (0 ≤ q.j ∧ q.j ≤ q.a) && decide (0 ≤ q.r ∧ q.r ≤ 7) && decide (0 ≤ q.n ∧ q.n ≤ 1000000000000)
/-- The wait for a window. -/
def wt (s n x : Int) : Int := if 0 ≤ x ∧ x ≤ 1023 then hsh.kh s [n] * hsh.kh s [n] % 2147483647 % (x + 1) else 0
/-- Drawn anew for a window. -/
def red (q : Bo) (s x r : Int) : Bo := ⟨q.a, q.b, q.c, q.d, x, wt s q.n x, 0, r, mn (q.n + 1) 1000000000000⟩
def suc (q : Bo) (s : Int) : Bo := if vb q = true then red q s q.b 0 else q
def fai (q : Bo) (s : Int) : Bo := if vb q = true then (if q.r = 7 then red q s q.b 0 else red q s (nx q.b q.c q.x) (q.r + 1)) else q
def aga (q : Bo) : Bool := vb q && decide (¬ q.r = 7)
def tik (q : Bo) (y : Bool) : Bo :=
  if vb q = true then (if y = true then ⟨q.a, q.b, q.c, q.d, q.x, q.t, 0, q.r, q.n⟩ else if q.j < q.a then ⟨q.a, q.b, q.c, q.d, q.x, q.t, q.j + 1, q.r, q.n⟩ else if q.t > 0 then ⟨q.a, q.b, q.c, q.d, q.x, q.t - 1, q.j, q.r, q.n⟩ else q) else q
def rdy (q : Bo) : Bool := vb q && decide (q.j = q.a) && decide (q.t = 0)
def slo (q : Bo) : Int := if vb q = true then q.a - q.j + q.t else -1

structure Vb (q : Bo) : Prop where
  par : Vp q.a q.b q.c q.d
  win : win q.x = true
  le : q.b ≤ q.x ∧ q.x ≤ q.c
  wait : 0 ≤ q.t ∧ q.t ≤ q.x
  idle : 0 ≤ q.j ∧ q.j ≤ q.a
  tries : 0 ≤ q.r ∧ q.r ≤ 7
  draws : 0 ≤ q.n ∧ q.n ≤ 1000000000000
theorem vb_iff {q : Bo} : vb q = true ↔ Vb q := by
  unfold vb rea
  simp only [Bool.and_eq_true, decide_eq_true_eq]
  constructor
  · rintro ⟨⟨⟨⟨⟨h1, h2, h3⟩, h4⟩, h5⟩, h6⟩, h7⟩
    exact ⟨vp_iff.1 h1, h2, h3, h4, h5, h6, h7⟩
  · rintro ⟨h1, h2, h3, h4, h5, h6, h7⟩
    exact ⟨⟨⟨⟨⟨vp_iff.2 h1, h2, h3⟩, h4⟩, h5⟩, h6⟩, h7⟩
def tens : List Int := [1, 3, 7, 15, 31, 63, 127, 255, 511, 1023]
theorem tens_all : (List.range 1024).all (fun k => !(win (k : Int)) || tens.contains (k : Int)) = true := by kernel_rfl
theorem win_tens {n : Int} (h : win n = true) : n ∈ tens := by
  obtain ⟨h0, h1⟩ := win_in h
  obtain ⟨k, rfl⟩ := Int.eq_ofNat_of_zero_le (show 0 ≤ n by omega)
  have := List.all_eq_true.1 tens_all k (List.mem_range.2 (by omega))
  simpa [h] using this
theorem tens_win : tens.all win = true := by kernel_rfl
theorem step_all : tens.all (fun b => tens.all (fun c => tens.all (fun x => !(decide (b ≤ x ∧ x ≤ c)) || win (nx b c x)))) = true := by kernel_rfl
theorem hit_all : tens.all (fun b => tens.all (fun c => tens.all (fun x => !(decide (b ≤ x ∧ x ≤ c)) || (List.range 21).any (fun k => it b c k == x)))) = true := by kernel_rfl
theorem nx_win {b c x : Int} (hb : win b = true) (hc : win c = true) (hx : win x = true) (h : b ≤ x ∧ x ≤ c) : win (nx b c x) = true := by
  have h1 := List.all_eq_true.1 (List.all_eq_true.1 (List.all_eq_true.1 step_all b (win_tens hb)) c (win_tens hc)) x (win_tens hx)
  simpa [h] using h1
theorem it_win {b c : Int} (hb : win b = true) (hc : win c = true) (h : b ≤ c) (k : Nat) : win (it b c k) = true := by
  induction k with
  | zero => exact hb
  | succ k ih => exact nx_win hb hc ih (it_in (win_in hb) (win_in hc) h k)
/-- The windows that failures lead to are those between the limits. -/
theorem rea_it {a b c d x : Int} (h : vp a b c d = true) : rea b c x = true ↔ ∃ k : Nat, k ≤ 20 ∧ it b c k = x := by
  have H := vp_iff.1 h
  unfold rea
  simp only [Bool.and_eq_true, decide_eq_true_eq]
  constructor
  · rintro ⟨h1, h2⟩
    have h3 := List.all_eq_true.1 (List.all_eq_true.1 (List.all_eq_true.1 hit_all b (win_tens H.low)) c (win_tens H.high)) x (win_tens h1)
    simp only [Bool.or_eq_true, List.any_eq_true] at h3
    rcases h3 with h3 | ⟨k, hk, h3⟩
    · simp [h2] at h3
    · exact ⟨k, by have := List.mem_range.1 hk; omega, by simpa using h3⟩
  · rintro ⟨k, _, rfl⟩
    exact ⟨it_win H.low H.high H.le k, it_in (win_in H.low) (win_in H.high) H.le k⟩
theorem rea_no {a b c d x : Int} (h : vp a b c d = true) (hn : ∀ k : Nat, k < 21 → ¬ it b c k = x) : rea b c x = false := by
  cases hr : rea b c x with
  | false => rfl
  | true => obtain ⟨k, hk, he⟩ := (rea_it h).1 hr; exact absurd he (hn k (by omega))
theorem wt_in (s n x : Int) (h : 0 ≤ x) : 0 ≤ wt s n x ∧ wt s n x ≤ x := by
  unfold wt
  split
  · have h4 := Int.emod_nonneg (hsh.kh s [n] * hsh.kh s [n] % 2147483647) (show x + 1 ≠ 0 by omega)
    have h5 := Int.emod_lt_of_pos (hsh.kh s [n] * hsh.kh s [n] % 2147483647) (show 0 < x + 1 by omega)
    omega
  · omega
/-- What is drawn anew is valid. -/
theorem red_vb {q : Bo} (h : Vb q) {s x r : Int} (hx : win x = true) (hle : q.b ≤ x ∧ x ≤ q.c) (hr : 0 ≤ r ∧ r ≤ 7) : Vb (red q s x r) := by
  have h1 := win_in hx
  have h2 := h.draws
  have h3 := h.par.aifs
  exact ⟨h.par, hx, hle, wt_in s q.n x (by omega), ⟨Int.le_refl _, show (0 : Int) ≤ q.a by omega⟩, hr, by show 0 ≤ mn (q.n + 1) 1000000000000 ∧ mn (q.n + 1) 1000000000000 ≤ 1000000000000; unfold mn; split <;> omega⟩
theorem suc_vb {q : Bo} (h : Vb q) (s : Int) : Vb (suc q s) := by
  unfold suc
  rw [if_pos (vb_iff.2 h)]
  exact red_vb h h.par.low ⟨Int.le_refl _, h.par.le⟩ ⟨by omega, by omega⟩
theorem fai_vb {q : Bo} (h : Vb q) (s : Int) : Vb (fai q s) := by
  unfold fai
  rw [if_pos (vb_iff.2 h)]
  have hr := h.tries
  split
  · exact red_vb h h.par.low ⟨Int.le_refl _, h.par.le⟩ ⟨by omega, by omega⟩
  · exact red_vb h (nx_win h.par.low h.par.high h.win h.le) (nx_in (win_in h.par.low) (win_in h.par.high) h.par.le) ⟨by omega, by omega⟩
theorem tik_vb {q : Bo} (h : Vb q) (y : Bool) : Vb (tik q y) := by
  unfold tik
  rw [if_pos (vb_iff.2 h)]
  have hw := h.wait
  have hj := h.idle
  split
  · exact ⟨h.par, h.win, h.le, h.wait, ⟨Int.le_refl _, show (0 : Int) ≤ q.a by omega⟩, h.tries, h.draws⟩
  · split
    · exact ⟨h.par, h.win, h.le, h.wait, ⟨show 0 ≤ q.j + 1 by omega, show q.j + 1 ≤ q.a by omega⟩, h.tries, h.draws⟩
    · split
      · exact ⟨h.par, h.win, h.le, ⟨show 0 ≤ q.t - 1 by omega, show q.t - 1 ≤ q.x by omega⟩, h.idle, h.tries, h.draws⟩
      · exact h
theorem fai_vb_eq (q : Bo) (s : Int) : vb (fai q s) = vb q := by
  cases h : vb q with
  | true => exact vb_iff.2 (fai_vb (vb_iff.1 h) s)
  | false => unfold fai; rw [h]; simp [h]
end Go.Proofs.YtkfkfejjhfkobaaDoor.bom
