/- The harness over queues: copy, comparison, marks. Condition: sizes up to 2^26. -/
import Derived.Test.YtbkdbdhbmabgcaaQh1
namespace Go.Proofs.Ytbkdbdhbmabgcaa.mq
open Go.RowKit sl harn bx mrw
set_option linter.unusedVariables false
set_option linter.unusedSimpArgs false

/-- The marks of messages: consecutive numbers. -/
def mk1 (q : Int) (m : Msg) : Msg := (q, q + 1, q + 2, marks .u8 (q + 3) m.2.2.2.length)
def mks : Int → List Msg → List Msg
  | _, [] => []
  | q, m :: r => mk1 q m :: mks (q + 3 + m.2.2.2.length) r
def tot (ms : List Msg) : Int := 3 * (ms.length : Int) + (blk ms : Nat)
theorem tot_snoc (ms : List Msg) (m : Msg) : tot (ms ++ [m]) = tot ms + 3 + m.2.2.2.length := by
  unfold tot
  rw [blk_snoc]
  simp
  omega
theorem tot_nonneg (ms : List Msg) : 0 ≤ tot ms := by unfold tot; omega
theorem tot_cons (m : Msg) (ms : List Msg) : tot (m :: ms) = 3 + m.2.2.2.length + tot ms := by
  unfold tot blk
  simp
  omega
theorem blk_append (a b : List Msg) : blk (a ++ b) = blk a + blk b := by simp [blk]
theorem tot_take (ms : List Msg) (k : Nat) : tot (ms.take k) ≤ tot ms := by
  have h : tot (ms.take k ++ ms.drop k) = tot (ms.take k) + tot (ms.drop k) := by
    unfold tot
    rw [blk_append, List.length_append]
    omega
  have h2 := tot_nonneg (ms.drop k)
  rw [List.take_append_drop] at h
  omega
theorem mks_snoc (m : Msg) : ∀ (l : List Msg) (q : Int), mks q (l ++ [m]) = mks q l ++ [mk1 (q + tot l) m]
  | [], q => by simp [mks, tot, blk]
  | x :: r, q => by
    have e : q + 3 + (x.2.2.2.length : Int) + tot r = q + tot (x :: r) := by rw [tot_cons]; omega
    rw [List.cons_append, mks, mks_snoc m r, mks, e]
    rfl
theorem mks_len : ∀ (l : List Msg) (q : Int), (mks q l).length = l.length
  | [], _ => rfl
  | x :: r, q => by rw [mks, List.length_cons, mks_len r, List.length_cons]
theorem mks_at {ms : List Msg} {j : Nat} {m : Msg} (h : ms[j]? = some m) (q : Int) : (mks q ms)[j]? = some (mk1 (q + tot (ms.take j)) m) := by
  induction ms generalizing j q with
  | nil => simp at h
  | cons x r ih =>
    cases j with
    | zero =>
      have : x = m := by simpa using h
      subst this
      simp [mks, tot, blk]
    | succ j =>
      have h2 : r[j]? = some m := by simpa using h
      rw [mks, List.getElem?_cons_succ, ih h2, List.take_succ_cons, tot_cons]
      congr 2
      omega
theorem tch_trans {lo hi : Nat} {a b c : World} (h : Tch lo hi a b) (g : Tch lo hi b c) : Tch lo hi a c :=
  ⟨g.os.trans h.os, g.tape.trans h.tape, g.output.trans h.output, Nat.le_trans h.size g.size, fun k hk hd => (g.block k (Nat.lt_of_lt_of_le hk h.size) hd).trans (h.block k hk hd)⟩
theorem tch_set {lo hi b : Nat} {w0 w : World} (h : Tch lo hi w0 w) (hb : lo ≤ b ∧ b < hi) (i : Nat) (v : Value) : Tch lo hi w0 (w.setCell ⟨b, i, none⟩ v) :=
  ⟨h.os, h.tape, h.output, by simpa [World.setCell] using h.size, fun k hk hd => by rw [Below.heap_setCell _ _ _ _ (show k ≠ b by omega)]; exact h.block k hk hd⟩
theorem set_map {es : List (El Msg)} {l r : List Msg} {j : Nat} {m : Msg} (h : es.map (·.x) = l ++ m :: r) (hl : l.length = j) (x' : Msg) (A : Option Addr) (n c : Nat) : (es.set j ⟨x', A, n, c⟩).map (·.x) = l ++ x' :: r := by
  rw [List.map_set, h, List.set_append_right _ _ (by omega), hl, Nat.sub_self]
  rfl
end Go.Proofs.Ytbkdbdhbmabgcaa.mq
