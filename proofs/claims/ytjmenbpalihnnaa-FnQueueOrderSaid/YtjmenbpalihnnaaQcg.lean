/- A region that hands back a queue, a message and a bool into two new variables: what is right of its values, how it changes the world, and what relates its values (for XRgv's rule). Condition: none. -/
import Derived.Test.YtjmenbpalihnnaaQlx
import Derived.Test.YtjmenbpalihnnaaRgv
import Derived.Test.YtjmenbpalihnnaaMrg
namespace Go.Proofs.Ytjmenbpalihnnaa.mq
open Go.RowKit sl harn bx mrw
set_option linter.unusedVariables false

abbrev MTy : TypeId := 28
abbrev QTy : TypeId := 26
/-- The result of the call: a queue and a message of the call's own, apart. -/
def Tup (N0 : Nat) (l1 : List Msg) (d : Int) (y1 : Msg) (b1 : Bool) (v : Value) (w : World) : Prop :=
  ∃ (A : Option Addr) (n c : Nat) (es : List (El Msg)) (f : El Msg) (lo hi : Nat), v = .tuple #[qV A n c d, mV y1 f.A f.n f.c, .bool b1] ∧ es.map (·.x) = l1 ∧ Oe msg w lo hi A n c es ∧ Ow 5 .u8 w lo hi f.A f.n f.c y1.2.2.2 ∧ Ds (es ++ [f]) ∧ N0 ≤ lo
/-- A new variable. -/
def BoxIs (T : TypeId) (s N0 : Nat) (v : Value) (w : World) : Prop := ∃ q cs, v = .pointer (some ⟨q, 0, none⟩) ∧ N0 ≤ q ∧ Bx T w q cs ∧ cs.size = s
/-- A store into a new variable. -/
def PutAt (T : TypeId) (s N0 : Nat) (x : Value) (w w' : World) : Prop := ∃ q cs0 cs, x = .pointer (some ⟨q, 0, none⟩) ∧ N0 ≤ q ∧ Bx T w q cs0 ∧ cs.size = s ∧ stw.Put T w q cs w'
/-- The variable is not the row of the queue. -/
def Sep (x y : Value) : Prop := ∀ q A n c d u v, x = .pointer (some ⟨q, 0, none⟩) → (y = qV A n c d ∨ y = .tuple #[qV A n c d, u, v]) → blkOf A ≠ some q
def LinkQ (x y : Value) (w : World) : Prop := ∀ q A n c d, x = .pointer (some ⟨q, 0, none⟩) → y = qV A n c d → Bx QTy w q #[.slice A n c, .int .i64 d]
def LinkM (x y : Value) (w : World) : Prop := ∀ q y1 A n c, x = .pointer (some ⟨q, 0, none⟩) → y = mV y1 A n c → Bx MTy w q #[.int .i64 y1.1, .int .i64 y1.2.1, .int .i64 y1.2.2.1, .slice A n c]
def Cmp0 (x y : Value) : Prop := ∀ a b c, x = .tuple #[a, b, c] → y = a
def Cmp1 (x y : Value) : Prop := ∀ a b c, x = .tuple #[a, b, c] → y = b
def Dp (to ca mv fq fm bm sq sm : Nat) (j k : Nat) (x y : Value) (w : World) : Prop :=
  (j = bm → (k = to ∨ k = ca ∨ k = mv) → Sep x y) ∧ (j = sq → k = fq → LinkQ x y w) ∧ (j = sm → k = fm → LinkM x y w) ∧ (j = mv → k = fq → Cmp0 x y) ∧ (j = mv → k = fm → Cmp1 x y)
def Ep (sq sm N0 : Nat) (i : Nat) (x : Value) (w w' : World) : Prop :=
  if i = sq then PutAt QTy 2 N0 x w w' else if i = sm then PutAt MTy 4 N0 x w w' else Below w.heap.size w w'
def Rp (to ca mv fq fm bq bm sq sm N0 : Nat) (ms : List Msg) (d : Int) (l1 : List Msg) (y1 : Msg) (b1 : Bool) (K : Nat → Value) (j : Nat) (v : Value) (w : World) : Prop :=
  if j = to then (qrow ms d).1 v w else if j = ca ∨ j = mv then Tup N0 l1 d y1 b1 v w else if j = fq then (∃ A n c, v = qV A n c d) else if j = fm then (∃ A n c, v = mV y1 A n c)
  else if j = bq ∨ j = sq then BoxIs QTy 2 N0 v w else if j = bm ∨ j = sm then BoxIs MTy 4 N0 v w else v = K j

theorem bx_type {T U : TypeId} {w : World} {b : Nat} {cs ds : Array Value} (h : Bx T w b cs) (g : Bx U w b ds) : T = U := by
  unfold Bx at h g
  rw [h] at g
  simp only [Option.some.injEq, Obj.cells.injEq] at g
  exact g.2.1
theorem ow_put {T : TypeId} {w w' : World} {b : Nat} {cs : Array Value} (h : Bx T w b cs) (h8 : T ≠ 5) (hs : w.heap.size ≤ w'.heap.size) (hw : ∀ k, k ≠ b → w'.heap[k]? = w.heap[k]?) {lo2 hi2 m c : Nat} {B : Option Addr} {zs : List Int} (ho : Ow 5 .u8 w lo2 hi2 B m c zs) : Ow 5 .u8 w' lo2 hi2 B m c zs := by
  obtain ⟨⟨q1, q2⟩, q3, q4, q5⟩ := ho
  refine ⟨⟨q1, ?_⟩, q3, by omega, q5⟩
  rcases q2 with q2 | ⟨g', c', cur', e, r1, r2, r3⟩
  · exact Or.inl q2
  · refine Or.inr ⟨g', c', cur', e, r1, ?_, r3⟩
    rw [hw g' (fun heq => by
      subst heq
      unfold Bx at h
      rw [h] at r2
      simp only [Option.some.injEq, Obj.cells.injEq] at r2
      exact h8 r2.2.1)]
    exact r2
theorem oe_put {T : TypeId} {w w' : World} {b : Nat} {cs : Array Value} (h : Bx T w b cs) (h8 : T ≠ 5) (hs : w.heap.size ≤ w'.heap.size) (hw : ∀ k, k ≠ b → w'.heap[k]? = w.heap[k]?) {lo hi n c : Nat} {A : Option Addr} {es : List (El Msg)} (o : Oe msg w lo hi A n c es) (hne : blkOf A ≠ some b) : Oe msg w' lo hi A n c es := by
  refine ⟨⟨o.row.1, ?_⟩, fun e he => ow_put h h8 hs hw (o.body e he), o.ds, by have := o.hi_; omega, o.lt⟩
  rcases o.row.2 with h2 | ⟨g, c', cur, e, g1, g2, g3⟩
  · exact Or.inl h2
  · refine Or.inr ⟨g, c', cur, e, g1, ?_, g3⟩
    rw [hw g (fun heq => by
      subst heq
      injection e with e1 e2 e3
      rw [e1] at hne
      exact hne rfl)]
    exact g2
theorem box_below {T : TypeId} {s N0 : Nat} {v : Value} {w w' : World} (h : BoxIs T s N0 v w) (hb : Below w.heap.size w w') : BoxIs T s N0 v w' := by
  obtain ⟨q, cs, e, h1, h2, h3⟩ := h
  exact ⟨q, cs, e, h1, h2.below hb, h3⟩
theorem box_put {T U : TypeId} {s t N0 : Nat} {v x : Value} {w w' : World} (h : BoxIs T s N0 v w) (hp : PutAt U t N0 x w w') (hT : T = U → s = t) : BoxIs T s N0 v w' := by
  obtain ⟨q, cs, e, h1, h2, h3⟩ := h
  obtain ⟨p, cs0, cs1, _, _, g1, g2, g3⟩ := hp
  by_cases hqp : q = p
  · subst hqp
    have hU := bx_type h2 g1
    subst hU
    exact ⟨q, cs1, e, h1, g3.box, by rw [g2, hT rfl]⟩
  · exact ⟨q, cs, e, h1, g3.keep h2 hqp, h3⟩
theorem tup_below {N0 : Nat} {l1 : List Msg} {d : Int} {y1 : Msg} {b1 : Bool} {v : Value} {w w' : World} (h : Tup N0 l1 d y1 b1 v w) (hb : Below w.heap.size w w') : Tup N0 l1 d y1 b1 v w' := by
  obtain ⟨A, n, c, es, f, lo, hi, e, h1, h2, h3, h4, h5⟩ := h
  exact ⟨A, n, c, es, f, lo, hi, e, h1, h2.below hb, h3.below hb, h4, h5⟩
theorem tup_putQ {N0 : Nat} {l1 : List Msg} {d : Int} {y1 : Msg} {b1 : Bool} {v x : Value} {w w' : World} (h : Tup N0 l1 d y1 b1 v w) (hp : PutAt QTy 2 N0 x w w') : Tup N0 l1 d y1 b1 v w' := by
  obtain ⟨A, n, c, es, f, lo, hi, e, h1, h2, h3, h4, h5⟩ := h
  obtain ⟨p, cs0, cs1, _, _, g1, g2, g3⟩ := hp
  exact ⟨A, n, c, es, f, lo, hi, e, h1, rgp.oe_set h2 g1 (by decide) (by decide) g3.below.size (fun k hk => g3.other k hk), ow_put g1 (by decide) g3.below.size (fun k hk => g3.other k hk) h3, h4, h5⟩
theorem tup_putM {N0 : Nat} {l1 : List Msg} {d : Int} {y1 : Msg} {b1 : Bool} {v x : Value} {w w' : World} (h : Tup N0 l1 d y1 b1 v w) (hp : PutAt MTy 4 N0 x w w') (hs : Sep x v) : Tup N0 l1 d y1 b1 v w' := by
  obtain ⟨A, n, c, es, f, lo, hi, e, h1, h2, h3, h4, h5⟩ := h
  obtain ⟨p, cs0, cs1, ex, _, g1, g2, g3⟩ := hp
  exact ⟨A, n, c, es, f, lo, hi, e, h1, oe_put g1 (by decide) g3.below.size (fun k hk => g3.other k hk) h2 (hs p A n c d _ _ ex (Or.inr e)), ow_put g1 (by decide) g3.below.size (fun k hk => g3.other k hk) h3, h4, h5⟩
theorem qrow_putQ {N0 : Nat} {l : List Msg} {d : Int} {v x : Value} {w w' : World} (h : (qrow l d).1 v w) (hp : PutAt QTy 2 N0 x w w') : (qrow l d).1 v w' := by
  obtain ⟨A, n, c, lo, hi, es, e, h1, h2⟩ := h
  obtain ⟨p, cs0, cs1, ex, _, g1, g2, g3⟩ := hp
  exact ⟨A, n, c, lo, hi, es, e, h1, rgp.oe_set h2 g1 (by decide) (by decide) g3.below.size (fun k hk => g3.other k hk)⟩
theorem qrow_putM {N0 : Nat} {l : List Msg} {d : Int} {v x : Value} {w w' : World} (h : (qrow l d).1 v w) (hp : PutAt MTy 4 N0 x w w') (hs : Sep x v) : (qrow l d).1 v w' := by
  obtain ⟨A, n, c, lo, hi, es, e, h1, h2⟩ := h
  obtain ⟨p, cs0, cs1, ex, _, g1, g2, g3⟩ := hp
  exact ⟨A, n, c, lo, hi, es, e, h1, oe_put g1 (by decide) g3.below.size (fun k hk => g3.other k hk) h2 (hs p A n c d undef undef ex (Or.inl e))⟩
/-- What is right stays so. -/
theorem rp_keep {to ca mv fq fm bq bm sq sm N0 : Nat} {ms : List Msg} {d : Int} {l1 : List Msg} {y1 : Msg} {b1 : Bool} {K : Nat → Value} (hsm : sq ≠ sm) (hbm : bm ≠ to ∧ bm ≠ ca ∧ bm ≠ mv) (i j : Nat) (x y : Value) (w w' : World) (hij : i ≠ j)
    (h : Rp to ca mv fq fm bq bm sq sm N0 ms d l1 y1 b1 K j y w) (he : Ep sq sm N0 i x w w') (hd : ∀ k, [(sq, bq), (sm, bm)].lookup i = some k → k ≠ j → Dp to ca mv fq fm bm sq sm k j x y w) : Rp to ca mv fq fm bq bm sq sm N0 ms d l1 y1 b1 K j y w' := by
  unfold Rp at h ⊢
  unfold Ep at he
  by_cases hi1 : i = sq
  · rw [if_pos hi1] at he
    by_cases c0 : j = to
    · rw [if_pos c0] at h ⊢
      exact qrow_putQ h he
    rw [if_neg c0] at h ⊢
    by_cases c1 : j = ca ∨ j = mv
    · rw [if_pos c1] at h ⊢
      exact tup_putQ h he
    rw [if_neg c1] at h ⊢
    by_cases c2 : j = fq
    · rw [if_pos c2] at h ⊢
      exact h
    rw [if_neg c2] at h ⊢
    by_cases c3 : j = fm
    · rw [if_pos c3] at h ⊢
      exact h
    rw [if_neg c3] at h ⊢
    by_cases c4 : j = bq ∨ j = sq
    · rw [if_pos c4] at h ⊢
      exact box_put h he fun _ => rfl
    rw [if_neg c4] at h ⊢
    by_cases c5 : j = bm ∨ j = sm
    · rw [if_pos c5] at h ⊢
      exact box_put h he fun e => absurd e (by decide)
    rw [if_neg c5] at h ⊢
    exact h
  · rw [if_neg hi1] at he
    by_cases hi2 : i = sm
    · rw [if_pos hi2] at he
      have hk : ([(sq, bq), (sm, bm)] : List (Nat × Nat)).lookup i = some bm := by
        subst hi2
        have e1 : (i == sq) = false := by simpa using hi1
        simp [List.lookup_cons, e1]
      by_cases c0 : j = to
      · rw [if_pos c0] at h ⊢
        exact qrow_putM h he ((hd bm hk (by omega)).1 rfl (Or.inl c0))
      rw [if_neg c0] at h ⊢
      by_cases c1 : j = ca ∨ j = mv
      · rw [if_pos c1] at h ⊢
        exact tup_putM h he ((hd bm hk (by omega)).1 rfl (Or.inr c1))
      rw [if_neg c1] at h ⊢
      by_cases c2 : j = fq
      · rw [if_pos c2] at h ⊢
        exact h
      rw [if_neg c2] at h ⊢
      by_cases c3 : j = fm
      · rw [if_pos c3] at h ⊢
        exact h
      rw [if_neg c3] at h ⊢
      by_cases c4 : j = bq ∨ j = sq
      · rw [if_pos c4] at h ⊢
        exact box_put h he fun e => absurd e (by decide)
      rw [if_neg c4] at h ⊢
      by_cases c5 : j = bm ∨ j = sm
      · rw [if_pos c5] at h ⊢
        exact box_put h he fun _ => rfl
      rw [if_neg c5] at h ⊢
      exact h
    · rw [if_neg hi2] at he
      by_cases c0 : j = to
      · rw [if_pos c0] at h ⊢
        exact (qrow ms d).2 _ _ _ h he
      rw [if_neg c0] at h ⊢
      by_cases c1 : j = ca ∨ j = mv
      · rw [if_pos c1] at h ⊢
        exact tup_below h he
      rw [if_neg c1] at h ⊢
      by_cases c2 : j = fq
      · rw [if_pos c2] at h ⊢
        exact h
      rw [if_neg c2] at h ⊢
      by_cases c3 : j = fm
      · rw [if_pos c3] at h ⊢
        exact h
      rw [if_neg c3] at h ⊢
      by_cases c4 : j = bq ∨ j = sq
      · rw [if_pos c4] at h ⊢
        exact box_below h he
      rw [if_neg c4] at h ⊢
      by_cases c5 : j = bm ∨ j = sm
      · rw [if_pos c5] at h ⊢
        exact box_below h he
      rw [if_neg c5] at h ⊢
      exact h
/-- What relates two values stays so. -/
theorem dp_keep {to ca mv fq fm bq bm sq sm N0 : Nat} (hsm : sq ≠ sm) (i j k : Nat) (z x y : Value) (w w' : World) (hij : i ≠ j) (hik : i ≠ k)
    (he : Ep sq sm N0 i z w w') (h : Dp to ca mv fq fm bm sq sm j k x y w) : Dp to ca mv fq fm bm sq sm j k x y w' := by
  obtain ⟨h1, h2, h3, h4, h5⟩ := h
  unfold Ep at he
  refine ⟨h1, fun hj hk q A n c d hx hy => ?_, fun hj hk q y1 A n c hx hy => ?_, h4, h5⟩
  · have hb := h2 hj hk q A n c d hx hy
    have hi1 : i ≠ sq := by omega
    rw [if_neg hi1] at he
    by_cases hi2 : i = sm
    · rw [if_pos hi2] at he
      obtain ⟨p, cs0, cs1, ex, _, g1, g2, g3⟩ := he
      exact g3.keep hb fun e => by subst e; exact absurd (bx_type hb g1) (by decide)
    · rw [if_neg hi2] at he
      exact hb.below he
  · have hb := h3 hj hk q y1 A n c hx hy
    by_cases hi1 : i = sq
    · rw [if_pos hi1] at he
      obtain ⟨p, cs0, cs1, ex, _, g1, g2, g3⟩ := he
      exact g3.keep hb fun e => by subst e; exact absurd (bx_type hb g1) (by decide)
    · rw [if_neg hi1, if_neg (show i ≠ sm by omega)] at he
      exact hb.below he
end Go.Proofs.Ytjmenbpalihnnaa.mq
