/- Reservations as numbers: what is valid, reserved, released, combined, what a heard frame announces. No program. -/
import Derived.Test.YtebbnopconbnlaaFrm
import Derived.Test.YtebbnopconbnlaaAir2
namespace Go.Proofs.Ytebbnopconbnlaa.rsm
open Go.RowKit frm
set_option linter.unusedVariables false

/-- A reservation: until when, the holder, by whom. -/
structure Rv where
  u : Int
  h : Int
  b : Int
def vr (q : Rv) : Bool := decide (0 ≤ q.u ∧ q.u ≤ 1000000000000) && decide (0 ≤ q.h ∧ q.h ≤ 15) && decide (0 ≤ q.b ∧ q.b ≤ 15)
def isr (q : Rv) (n : Int) : Bool := decide (n < q.u)
def may (q : Rv) (s n : Int) : Bool := !isr q n || decide (q.h = s)
def rel (q : Rv) (n : Int) (y : Bool) : Rv := if (isr q n && !y) = true then ⟨0, 0, 0⟩ else q
def com (a b : Rv) : Rv := if a.u < b.u then b else a
/-- The Duration of a request, of a grant. -/
def rqd (r n : Int) : Int := if airs.fs r n = 0 then 0 else if airs.fs r n + 2 ≤ 1000 then airs.fs r n + 2 else 1000
def grd (q : Int) : Int := if q ≤ 1 then 0 else q - 1
/-- What a frame announces that ends at n. -/
def ann (x : Fm) (n : Int) : Rv := ⟨n + 1 + x.d, if x.k = 4 then x.t else x.f, x.f⟩
/-- Whether a heard frame counts at all. -/
def cnt (q : Rv) (s : Int) (x : Fm) (n : Int) : Bool := decide (Vf x) && (vr q && (decide (0 ≤ n ∧ n ≤ 999999998999) && decide (¬ x.t = s)))
def hea (q : Rv) (s : Int) (x : Fm) (n : Int) : Rv := if cnt q s x n = true then com q (ann x n) else q
theorem cnt_iff {q : Rv} {s : Int} {x : Fm} {n : Int} : cnt q s x n = true ↔ Vf x ∧ vr q = true ∧ (0 ≤ n ∧ n ≤ 999999998999) ∧ ¬ x.t = s := by
  unfold cnt
  rw [Bool.and_eq_true, Bool.and_eq_true, Bool.and_eq_true, decide_eq_true_eq, decide_eq_true_eq, decide_eq_true_eq]
theorem vr_iff {q : Rv} : vr q = true ↔ (0 ≤ q.u ∧ q.u ≤ 1000000000000) ∧ (0 ≤ q.h ∧ q.h ≤ 15) ∧ (0 ≤ q.b ∧ q.b ≤ 15) := by
  unfold vr
  rw [Bool.and_eq_true, Bool.and_eq_true, decide_eq_true_eq, decide_eq_true_eq, decide_eq_true_eq, and_assoc]
end Go.Proofs.Ytebbnopconbnlaa.rsm
