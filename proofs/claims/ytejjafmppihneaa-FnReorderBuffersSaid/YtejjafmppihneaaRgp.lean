/- A region that draws its order, in which one operation appends an element onto a row of the call's own, and that a chain of operations ends. Condition: the region's form. -/
import Derived.Test.YtejjafmppihneaaMra
import Derived.Test.YtejjafmppihneaaReg
import Derived.Test.YtejjafmppihneaaDrk
namespace Go.Proofs.Ytejjafmppihneaa.rgp
open Go Go.RowKit sl harn bx mrw
set_option linter.unusedVariables false

/-- An append onto the row: the old slice stays, only its block may change. -/
def Ap {α : Type} (S : Sh α) (lo hi : Nat) (A : Option Addr) (n cap : Nat) (es : List (El α)) (w w' : World) : Prop := Oe S w lo hi A n cap es ∧ w.grownBy w' (blkOf A) ∧ Oe S w' lo hi A n cap es
/-- Operation number k changes the world as E2 says, the others as E1 says. -/
def EA (k : Nat) (E1 E2 : World → World → Prop) (i : Nat) (w w' : World) : Prop := (i ≠ k ∧ E1 w w') ∨ (i = k ∧ E2 w w')
/-- What is right of a value and stays so under both. -/
def St (E1 E2 : World → World → Prop) : Type := { p : Value → World → Prop // ∀ v w w', p v w → (E1 w w' ∨ E2 w w') → p v w' }
def is {E1 E2 : World → World → Prop} (x : Value) : St E1 E2 := ⟨fun v _ => v = x, fun _ _ _ h _ => h⟩
def val {E1 E2 : World → World → Prop} (p : Value → Prop) : St E1 E2 := ⟨fun v _ => p v, fun _ _ _ h _ => h⟩
def RA {E1 E2 : World → World → Prop} (k : Nat) (l : List (St E1 E2)) (q : Value → World → Prop) (i : Nat) (v : Value) (w : World) : Prop := (i ≠ k → (l.getD i (val fun _ => True)).1 v w) ∧ (i = k → q v w)
section
variable {E1 E2 : World → World → Prop} {k i : Nat} {l : List (St E1 E2)} {q : Value → World → Prop} {v : Value} {w w' : World}
theorem ea1 (h : (i == k) = false) (hb : E1 w w') : EA k E1 E2 i w w' := Or.inl ⟨by simpa using h, hb⟩
theorem ea2 (hb : E2 w w') : EA k E1 E2 k w w' := Or.inr ⟨rfl, hb⟩
theorem ea_cases {p : Prop} (h : EA k E1 E2 i w w') (h1 : E1 w w' → p) (h2 : E2 w w' → p) : p := by
  rcases h with ⟨_, h⟩ | ⟨_, h⟩
  · exact h1 h
  · exact h2 h
theorem ra1 (h : (i == k) = false) (hp : (l.getD i (val fun _ => True)).1 v w) : RA k l q i v w := ⟨fun _ => hp, fun e => by rw [e] at h; simp at h⟩
theorem ra1_out (h : (i == k) = false) (hp : RA k l q i v w) : (l.getD i (val fun _ => True)).1 v w := hp.1 (by simpa using h)
theorem ra2 (hp : q v w) : RA k l q k v w := ⟨fun h => absurd rfl h, fun _ => hp⟩
theorem ra2_out (hp : RA k l q k v w) : q v w := hp.2 rfl
theorem ra_keep (hq : ∀ v w w', q v w → E1 w w' → q v w') : ∀ i j v w w', i ≠ j → RA k l q j v w → EA k E1 E2 i w w' → RA k l q j v w' := by
  intro i j v w w' hij hr he
  refine ⟨fun hj => (l.getD j _).2 v w w' (hr.1 hj) ?_, fun hj => ?_⟩
  · rcases he with ⟨_, he⟩ | ⟨_, he⟩
    · exact Or.inl he
    · exact Or.inr he
  · rcases he with ⟨_, he⟩ | ⟨hi, _⟩
    · exact hq v w w' (hr.2 hj) he
    · exact absurd (hi.trans hj.symm) hij
end
section
variable {P : Program} {Q : Exit → Act → World → Prop} {a0 : Act}
/-- The rule: each operation with a relation of its own, a chain at the end. -/
theorem region_tailE {id : Nat} {l : List Oper} {w : World} (E : Nat → World → World → Prop) (s N : Nat) (nd : List (Option (List (Nat × Tmp)))) (hd : List (Nat × Tmp)) (C : World → Prop) (R : Nat → Value → World → Prop) (hm : P.follows .mixedOrders = true) (hs : decide (s < l.length) = true) (hB : reg.okB l.toArray s N [] nd = true)
    (hT : Region.seqB .any l.toArray (l.length - s) s (reg.upTo l.length s) = true) (hN : a0.tmps.size = N) (hC : ∀ i w w', C w → E i w w' → C w') (hR : ∀ i j v w w', i ≠ j → R j v w → E i w w' → R j v w') (h0 : C w.drew) (hH : reg.heads l.toArray s = hd) (hA : reg.All E [] P l.toArray R C a0 0 l nd)
    (hF : ∀ w, C w → reg.Obs l.toArray R w (fun c => wpList P l.toArray Q (l.drop s) c w) hd a0) : (Code.region id l.toArray true).wp P Q a0 w :=
  wp_region_any hm (by
    subst hH
    exact reg.any_tail (Q := Q) (E := E) (rf := []) (of_decide_eq_true hs) (reg.ok_of hB) hT hN hC hR hA hF _ _ a0 w.drew (by simp) (reg.inv_start h0))
end
/-- A block of another type is not the row's own. -/
theorem ne_type {α : Type} {S : Sh α} {w : World} {lo hi n cap : Nat} {A : Option Addr} {es : List (El α)} {T : TypeId} {b : Nat} {cs : Array Value} (h : Bx T w b cs) (o : Oe S w lo hi A n cap es) (hT : T ≠ S.T) : some b ≠ blkOf A := by
  intro e
  rcases o.form with ⟨e0, _⟩ | ⟨g, cur, e0, _, _, h3, _⟩
  · rw [e0] at e; cases e
  · rw [e0] at e
    obtain rfl : b = g := by simpa using e
    unfold Bx at h
    rw [h] at h3
    simp only [Option.some.injEq, Obj.cells.injEq] at h3
    exact hT h3.2.1
/-- A row and its slices stay when a block of another type changes. -/
theorem oe_set {α : Type} {S : Sh α} {w : World} {lo hi n cap : Nat} {A : Option Addr} {es : List (El α)} {T : TypeId} {b : Nat} {cs : Array Value} (o : Oe S w lo hi A n cap es) (h : Bx T w b cs) (hT : T ≠ S.T) (h8 : T ≠ 5) {w' : World} (hs : w.heap.size ≤ w'.heap.size) (hw : ∀ k, k ≠ b → w'.heap[k]? = w.heap[k]?) : Oe S w' lo hi A n cap es := by
  have ow : ∀ {lo2 hi2 m c : Nat} {B : Option Addr} {zs : List Int}, Ow 5 .u8 w lo2 hi2 B m c zs → Ow 5 .u8 w' lo2 hi2 B m c zs := by
    intro lo2 hi2 m c B zs ho
    obtain ⟨⟨q1, q2⟩, q3, q4, q5⟩ := ho
    refine ⟨⟨q1, ?_⟩, q3, by omega, q5⟩
    rcases q2 with q2 | ⟨g', c', cur', e, r1, r2, r3⟩
    · exact Or.inl q2
    · refine Or.inr ⟨g', c', cur', e, r1, ?_, r3⟩
      rw [hw g' (fun heq => by
        subst heq
        unfold Bx at h
        rw [h] at r2
        simp only [Option.some.injEq, Obj.cells.injEq] at r2
        exact h8 r2.2.1)]
      exact r2
  refine ⟨⟨o.row.1, ?_⟩, fun e he => ow (o.body e he), o.ds, by have := o.hi_; omega, o.lt⟩
  rcases o.row.2 with h2 | ⟨g, c, cur, e, g1, g2, g3⟩
  · exact Or.inl h2
  · refine Or.inr ⟨g, c, cur, e, g1, ?_, g3⟩
    rw [hw g (fun heq => by
      subst heq
      unfold Bx at h
      rw [h] at g2
      simp only [Option.some.injEq, Obj.cells.injEq] at g2
      exact hT g2.2.1)]
    exact g2
theorem oe_setCell {α : Type} {S : Sh α} {w : World} {lo hi n cap : Nat} {A : Option Addr} {es : List (El α)} {T : TypeId} {b : Nat} {cs : Array Value} (o : Oe S w lo hi A n cap es) (h : Bx T w b cs) (hT : T ≠ S.T) (h8 : T ≠ 5) (i : Nat) (v : Value) : Oe S (w.setCell ⟨b, i, none⟩ v) lo hi A n cap es :=
  oe_set o h hT h8 (by simp [World.setCell]) fun k hk => Below.heap_setCell _ _ _ _ hk
/-- An element's value with a slice of the call's own above the row. -/
def elv {α : Type} (S : Sh α) (lo hi : Nat) (A : Option Addr) (n cap : Nat) (es : List (El α)) (x : α) (f : Option Addr → Nat → Nat → Value) : St reg.Bel (Ap S lo hi A n cap es) :=
  ⟨fun v w => ∃ A2 n2 c2 lo2 hi2, v = f A2 n2 c2 ∧ hi ≤ lo2 ∧ lo ≤ lo2 ∧ Ow 5 .u8 w lo2 hi2 A2 n2 c2 (S.B x), fun v w w' ⟨A2, n2, c2, lo2, hi2, e, h1, h2, h⟩ hb => by
    rcases hb with hb | hb
    · exact ⟨A2, n2, c2, lo2, hi2, e, h1, h2, h.below hb⟩
    · exact ⟨A2, n2, c2, lo2, hi2, e, h1, h2, ow_grown hb.1 hb.2.1 h⟩⟩
/-- A new slice of that one element. -/
def onev {α : Type} (S : Sh α) (lo hi : Nat) (A : Option Addr) (n cap : Nat) (es : List (El α)) (x : α) (g : Option Addr → Nat → Nat → Array Value) : St reg.Bel (Ap S lo hi A n cap es) :=
  ⟨fun v w => ∃ q A2 n2 c2 lo2 hi2, v = .slice (some ⟨q, 0, none⟩) 1 1 ∧ hi ≤ q ∧ Bx S.T w q (g A2 n2 c2) ∧ hi ≤ lo2 ∧ lo ≤ lo2 ∧ Ow 5 .u8 w lo2 hi2 A2 n2 c2 (S.B x), fun v w w' ⟨q, A2, n2, c2, lo2, hi2, e, hq, hX, h1, h2, h⟩ hb => by
    rcases hb with hb | hb
    · exact ⟨q, A2, n2, c2, lo2, hi2, e, hq, hX.below hb, h1, h2, h.below hb⟩
    · exact ⟨q, A2, n2, c2, lo2, hi2, e, hq, grown_bx hX hb.2.1 (fun e => by have := hb.1.lo_ e.symm; omega), h1, h2, ow_grown hb.1 hb.2.1 h⟩⟩
/-- The row behind the append. -/
def newv {α : Type} (S : Sh α) (lo n : Nat) (es : List (El α)) (x : α) (v : Value) (w : World) : Prop := ∃ A3 c3 f hi3, v = .slice A3 (n + 1) c3 ∧ f.x = x ∧ Oe S w lo hi3 A3 (n + 1) c3 (es ++ [f])
theorem newv_keep {α : Type} {S : Sh α} {lo n : Nat} {es : List (El α)} {x : α} : ∀ v w w', newv S lo n es x v w → reg.Bel w w' → newv S lo n es x v w' := fun v w w' ⟨A3, c3, f, hi3, e, hf, h⟩ hb => ⟨A3, c3, f, hi3, e, hf, h.below hb⟩
/-- The append itself. -/
theorem wp_push {α : Type} {S : Sh α} {P : Program} {o : Oper} {a : Act} {w : World} {K : Act → World → Prop} {Q : Exit → Act → World → Prop} (s x : Operand) (t : TypeId)
    (hop : o.op = .call { callee := .builtin .append, args := #[s, x], argTypes := #[t, t] })
    {i : TypeInfo} {z : Value} (h1 : P.underlying t = some (.slice S.T)) (h2 : P.info? S.T = some i) (h3 : i.zero = some z) (h4 : i.size = S.s) (h5 : i.bytes ≤ 128) (h6 : z.cells.size = S.s)
    {lo hi n cap q : Nat} {A : Option Addr} {es : List (El α)} (hs : a.eval s = .slice A n cap) (hx : a.eval x = .slice (some ⟨q, 0, none⟩) 1 1) (h : Oe S w lo hi A n cap es) (y : α) {A2 : Option Addr} {n2 c2 : Nat} (hX : Bx S.T w q (S.C y A2 n2 c2).toArray)
    {lo2 hi2 : Nat} (hf : Ow 5 .u8 w lo2 hi2 A2 n2 c2 (S.B y)) (hl : hi ≤ lo2) (hll : lo ≤ lo2) (hn : n + 1 ≤ 1073741824) (hlo : lo ≤ w.heap.size)
    (hK : ∀ A' cap' w', newv S lo n es y (.slice A' (n + 1) cap') w' → Ap S lo hi A n cap es w w' → K (a.put o.dst (.slice A' (n + 1) cap')) w') : Oper.wp P o a w K Q := by
  obtain ⟨A', cap', w', hrun, g1, g2, g3, _⟩ := h.more (P := P) t o.type i z h1 h2 h3 h4 h5 h6 ⟨q, 0, none⟩ 1 1 [⟨y, A2, n2, c2⟩] rfl (fun j u hu => by
    have e : flat S [⟨y, A2, n2, c2⟩] = S.C y A2 n2 c2 := by simp [flat, cells]
    rw [e] at hu
    have e2 : (⟨q, 0, none⟩ : Addr).add j = ⟨q, j, none⟩ := by unfold Addr.add; split <;> simp_all
    rw [e2, hX.cell j]
    simpa using hu) (fun f' hf' => by
    obtain rfl : f' = ⟨y, A2, n2, c2⟩ := by simpa using hf'
    exact ⟨lo2, hi2, hll, hf⟩) (h.ds.push h.body hf hl) hn hlo
  unfold Oper.wp execOp
  simp only [hop, resolve, invoke, builtin, Sem.run_bind, Sem.run_pure, Result.andThen_ok, List.map_toArray, List.map_cons, List.map_nil, hs, hx, hrun]
  exact hK A' cap' w' ⟨A', cap', ⟨y, A2, n2, c2⟩, w'.heap.size, rfl, rfl, g1⟩ ⟨h, g2, g3⟩
end Go.Proofs.Ytejjafmppihneaa.rgp
