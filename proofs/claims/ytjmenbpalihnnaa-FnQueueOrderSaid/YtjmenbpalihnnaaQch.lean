/- What the duties of such a region owe. Condition: none. -/
import Derived.Test.YtjmenbpalihnnaaQcg
import Derived.Test.YtjmenbpalihnnaaQcf
namespace Go.Proofs.Ytjmenbpalihnnaa.mq
open Go.RowKit sl harn bx mrw
set_option linter.unusedVariables false
set_option linter.unusedSimpArgs false
theorem sep_blk {y : Value} {N0 : Nat} {w : World} (hb : BoxIs MTy 4 N0 y w) {A : Option Addr} {n c hi : Nat} {es : List (El Msg)} {w3 : World} (ho : Oe msg w3 w.heap.size hi A n c es) : ∀ q, y = .pointer (some ⟨q, 0, none⟩) → blkOf A ≠ some q := by
  intro q hq hA
  obtain ⟨q2, cs, e, _, h2, _⟩ := hb
  rw [e] at hq
  injection hq with hq; injection hq with hq; injection hq with hq _
  subst hq
  have hl := h2.lt
  rcases ho.form with ⟨e0, _⟩ | ⟨g, cur, e0, h3, _⟩
  · rw [e0] at hA; cases hA
  · rw [e0] at hA
    obtain rfl : g = q2 := by simpa using hA
    omega
theorem sep_q {y : Value} {N0 : Nat} {w : World} (hb : BoxIs MTy 4 N0 y w) {A : Option Addr} {n c hi : Nat} {d : Int} {es : List (El Msg)} {w3 : World} (ho : Oe msg w3 w.heap.size hi A n c es) : Sep y (qV A n c d) := by
  intro q A' n' c' d' u v hx hy
  rcases hy with hy | hy
  · injection hy with hy
    have e1 : A = A' := by simpa using (congrArg (fun a : Array Value => a[0]?) hy) |> fun h => by simp at h; exact h.1
    subst e1
    exact sep_blk hb ho q hx
  · cases hy
theorem sep_t {y : Value} {N0 : Nat} {w : World} (hb : BoxIs MTy 4 N0 y w) {A : Option Addr} {n c hi : Nat} {d : Int} {es : List (El Msg)} {w3 : World} (ho : Oe msg w3 w.heap.size hi A n c es) (m b : Value) : Sep y (.tuple #[qV A n c d, m, b]) := by
  intro q A' n' c' d' u v hx hy
  rcases hy with hy | hy
  · cases hy
  · have e1 : A = A' := by
      injection hy with hy
      have h0 := congrArg (fun a : Array Value => a[0]?) hy
      simp at h0
      exact h0.1.1
    subst e1
    exact sep_blk hb ho q hx
theorem sep_own {w : World} {A : Option Addr} {n c lo hi : Nat} {es : List (El Msg)} (ho : Oe msg w lo hi A n c es) : blkOf A ≠ some w.heap.size := by
  intro hA
  rcases ho.form with ⟨e0, _⟩ | ⟨g, cur, e0, _, h3, _⟩
  · rw [e0] at hA; cases hA
  · rw [e0] at hA
    obtain rfl : g = w.heap.size := by simpa using hA
    have := ho.hi_
    omega
theorem sep_new {w : World} {y : Value} (h : (∃ l d, (qrow l d).1 y w) ∨ ∃ N0 l1 d y1 b1, Tup N0 l1 d y1 b1 y w) : Sep (.pointer (some ⟨w.heap.size, 0, none⟩)) y := by
  intro q A n c d u v hx hy
  injection hx with hx; injection hx with hx; injection hx with hx _
  subst hx
  rcases h with ⟨l, d2, A2, n2, c2, lo, hi, es, e, _, ho⟩ | ⟨N0, l1, d2, y1, b1, A2, n2, c2, es, f, lo, hi, e, _, ho, _⟩
  · rcases hy with hy | hy
    · rw [e] at hy
      have e1 : A2 = A := by
        injection hy with hy
        have h0 := congrArg (fun a : Array Value => a[0]?) hy
        simp at h0
        exact h0.1
      subst e1
      exact sep_own ho
    · rw [e] at hy; cases hy
  · rcases hy with hy | hy
    · rw [e] at hy; cases hy
    · rw [e] at hy
      have e1 : A2 = A := by
        injection hy with hy
        have h0 := congrArg (fun a : Array Value => a[0]?) hy
        simp at h0
        exact h0.1.1
      subst e1
      exact sep_own ho
theorem cmp0_mk (a b c : Value) : Cmp0 (.tuple #[a, b, c]) a := fun a' b' c' h => by
  injection h with h
  have h0 := congrArg (fun a : Array Value => a[0]?) h
  simpa using h0
theorem cmp1_mk (a b c : Value) : Cmp1 (.tuple #[a, b, c]) b := fun a' b' c' h => by
  injection h with h
  have h0 := congrArg (fun a : Array Value => a[1]?) h
  simpa using h0
theorem linkQ_mk {q n c : Nat} {A : Option Addr} {d : Int} {w : World} (h : Bx QTy w q #[.slice A n c, .int .i64 d]) : LinkQ (.pointer (some ⟨q, 0, none⟩)) (qV A n c d) w := by
  intro q' A' n' c' d' hx hy
  injection hx with hx; injection hx with hx; injection hx with hx _
  subst hx
  injection hy with hy
  rw [← hy]
  exact h
theorem linkM_mk {q n c : Nat} {A : Option Addr} {y : Msg} {w : World} (h : Bx MTy w q #[.int .i64 y.1, .int .i64 y.2.1, .int .i64 y.2.2.1, .slice A n c]) : LinkM (.pointer (some ⟨q, 0, none⟩)) (mV y A n c) w := by
  intro q' y' A' n' c' hx hy
  injection hx with hx; injection hx with hx; injection hx with hx _
  subst hx
  injection hy with hy
  rw [← hy]
  exact h
theorem t_parts {l1 : List Msg} {y1 : Msg} {b1 : Bool} {d : Int} {w w' : World} {e : Ending} (h : TPost (l1, y1, b1) d w e w') : ∃ (A : Option Addr) (n cap : Nat) (es : List (El Msg)) (f : El Msg), e = .returned (.tuple #[qV A n cap d, mV y1 f.A f.n f.c, .bool b1]) ∧ es.map (·.x) = l1 ∧ Oe msg w' w.heap.size w'.heap.size A n cap es ∧ Ow 5 .u8 w' w.heap.size w'.heap.size f.A f.n f.c y1.2.2.2 ∧ Ds (es ++ [f]) ∧ Below w.heap.size w w' := h
theorem tk_msg (ms : List Msg) (i : Int) : (tk ms i).2.1.2.2.2.length ≤ blk ms := by
  unfold tk
  split
  · rename_i h
    have hin : i.toNat < ms.length := by omega
    show (ms.getD i.toNat zm).2.2.2.length ≤ _
    rw [getD_of (List.getElem?_eq_getElem hin)]
    exact mem_blk (List.getElem_mem hin)
  · exact Nat.zero_le _
theorem kf_parts {ms : List Msg} {es0 : List (El Msg)} {f : El Msg} {zs : List Int} {w w' : World} {lo hi n cap : Nat} {A : Option Addr} {q : Int} {e : Ending} (h : KfPost ms es0 f zs w lo hi A n cap q e w') : ∃ es, e = .returned (.int .i64 (q + tot ms)) ∧ es.map (·.x) = mks q ms ∧ Oe msg w' lo hi A n cap es ∧ Ow 5 .u8 w' lo hi f.A f.n f.c zs ∧ Ds (es ++ [f]) ∧ Tch lo hi w w' := by
  obtain ⟨es, h1, h2, h3, h4, h5, h6, _⟩ := h
  exact ⟨es, h1, h2, h3, h4, h5, h6⟩
end Go.Proofs.Ytjmenbpalihnnaa.mq
