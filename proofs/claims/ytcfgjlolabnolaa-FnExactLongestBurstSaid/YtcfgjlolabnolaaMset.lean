/- A set of integers in memory (map[int]bool, every element true): what it holds, look-ups, stores, and a range over it in whatever order. Condition: none. -/
import Derived.Test.YtcfgjlolabnolaaOwn
import Derived.Maps.RangeWalk
import Derived.Maps.OwnSet
namespace Go.Proofs.Ytcfgjlolabnolaa.mset
open Go.RowKit Go.Maps sl harn
set_option linter.unusedVariables false

theorem lawInt : Keyed Try.prog 3 := int_keyed Try.underlying3
theorem zeroBool (w : World) : (zeroValue 4).run Try.prog w = .ok (.bool false) w := by kernel_rfl
/-- How an element is read. -/
def bel : Value → Option (DataW Unit × List MemPlace)
  | .bool b => some (.lit (.bool b), [])
  | _ => none
theorem bel_inv {v : Value} {y : DataW Unit × List MemPlace} (h : bel v = some y) : ∃ b, v = .bool b ∧ y = (.lit (.bool b), []) := by
  cases v <;> simp [bel] at h
  exact ⟨_, rfl, h.symm⟩
def ki (x : Int) : Lit := .int .i64 x
def Says (D : DataW Unit) (S : List Int) : Prop := ∀ x, (x ∈ S → Maps.has D (ki x) = true ∧ ∀ z, D.atKey (ki x) z = .lit (.bool true)) ∧ (x ∉ S → Maps.has D (ki x) = false)
/-- Block B is a set that holds S. -/
def Mset (w : World) (B n : Nat) (S : List Int) : Prop := ∃ D, w.ownsMap Try.prog 3 bel B n D ∧ Says D S
section
variable {w w' : World} {B n : Nat} {S : List Int}
theorem Mset.kept {row : Option Nat} (h : Mset w B n S) (hg : w.grownBy w' row) (hne : some B ≠ row) : Mset w' B n S := by
  obtain ⟨D, h1, h2⟩ := h
  exact ⟨D, h1.kept hg hne, h2⟩
theorem Mset.made (w : World) : Mset (w.alloc (.map #[] 0)) w.heap.size 0 [] :=
  ⟨.map [], World.ownsMap_made w _ _ _, fun x => ⟨fun h => absurd h (by simp), fun _ => rfl⟩⟩
theorem ki_lit (x : Int) : WideAt.IsKeyLit (ki x) := trivial
theorem ki_inj {x y : Int} (h : ki x = ki y) : x = y := by unfold ki at h; injection h
theorem Says.put {D : DataW Unit} (hD : IsMap D) (h : Says D S) (x : Int) : Says (D.put (ki x) (.lit (.bool true))) (S ++ [x]) := fun y => by
  by_cases e : y = x
  · subst e
    exact ⟨fun _ => ⟨Maps.has_put_same hD (ki_lit _) _, fun z => Maps.atKey_put_same hD (ki_lit _) _ z⟩, fun g => absurd (by simp) g⟩
  · have hne : ki y ≠ ki x := fun g => e (ki_inj g)
    refine ⟨fun g => ?_, fun g => ?_⟩
    · have g2 : y ∈ S := by simpa [e] using g
      have := (h y).1 g2
      exact ⟨by rw [Maps.has_put_other hne]; exact this.1, fun z => by rw [Maps.atKey_put_other hne]; exact this.2 z⟩
    · have g2 : y ∉ S := fun g3 => g (by simp [g3])
      rw [Maps.has_put_other hne]; exact (h y).2 g2
theorem Mset.put (h : Mset w B n S) (hn : n < 4294967296) {x : Int} (hx : (Lit.int .i64 x).wf = true) :
    ∃ w', (Instr.mapUpdate 56 (.map (some B)) (.int .i64 x) (.bool true)).run Try.prog w = .ok () w' ∧ Mset w' B (n + 1) (S ++ [x]) ∧ w.grownBy w' (some B) := by
  obtain ⟨D, h1, h2⟩ := h
  obtain ⟨w', g1, g2, g3⟩ := h1.update (val := .bool true) lawInt Try.underlying56 (by unfold maxLen; omega) (keyOf_int_mk Try.underlying3 hx) (d := .lit (.bool true)) (ps := []) rfl
  exact ⟨w', g1, ⟨_, g2, h2.put h1.isMap x⟩, g3⟩
theorem look {D : DataW Unit} (h1 : w.ownsMap Try.prog 3 bel B n D) (h2 : Says D S) {x : Int} (hx : (Lit.int .i64 x).wf = true) :
    (Instr.lookup 56 (.map (some B)) (.int .i64 x) false).run Try.prog w = .ok (.bool (decide (x ∈ S))) w := by
  obtain ⟨v, ps, g1, g2⟩ := h1.lookup lawInt Try.underlying56 (zeroBool w) (zd := .lit (.bool false)) (zp := []) rfl (keyOf_int_mk Try.underlying3 hx)
  obtain ⟨b, rfl, e⟩ := bel_inv g2
  rw [g1]
  by_cases hm : x ∈ S
  · have := ((h2 x).1 hm).2 (.lit (.bool false))
    unfold ki at this
    rw [this] at e
    simp only [Prod.mk.injEq, DataW.lit.injEq, Lit.bool.injEq] at e
    rw [decide_eq_true hm, ← e.1]
  · have := Maps.atKey_of_not_has ((h2 x).2 hm) (.lit (.bool false))
    unfold ki at this
    rw [this] at e
    simp only [Prod.mk.injEq, DataW.lit.injEq, Lit.bool.injEq] at e
    rw [decide_eq_false hm, ← e.1]
theorem Mset.yes (h : Mset w B n S) {x : Int} (hx : (Lit.int .i64 x).wf = true) (hm : x ∈ S) : (Instr.lookup 56 (.map (some B)) (.int .i64 x) false).run Try.prog w = .ok (.bool true) w := by
  obtain ⟨D, h1, h2⟩ := h
  rw [look h1 h2 hx, decide_eq_true hm]
theorem Mset.no (h : Mset w B n S) {x : Int} (hx : (Lit.int .i64 x).wf = true) (hm : x ∉ S) : (Instr.lookup 56 (.map (some B)) (.int .i64 x) false).run Try.prog w = .ok (.bool false) w := by
  obtain ⟨D, h1, h2⟩ := h
  rw [look h1 h2 hx, decide_eq_false hm]
end
theorem wpList_lookup_run {P : Program} (w : World) {ops : Array Oper} {rest : List Oper} {o : Oper} {a : Act} {Q : Exit → Act → World → Prop} (hg : o.guard = none) (m x : Operand) (t : TypeId) (c : Bool) (hop : o.op = Op.lookup t m x c)
    {mv kv v : Value} (hrun : (Instr.lookup t mv kv c).run P w = .ok v w) (hm : a.eval m = mv) (hx : a.eval x = kv) (hK : wpList P ops Q rest (a.put o.dst v) w) : wpList P ops Q (o :: rest) a w := by
  refine wpList_plain hg fun K' hK' => ?_
  unfold Oper.wp
  simp [execOp, hop, hm, hx, hrun, Result.andThen]
  exact hK' _ _ hK
theorem wpList_put (w : World) {ops : Array Oper} {rest : List Oper} {o : Oper} {a : Act} {Q : Exit → Act → World → Prop} (hg : o.guard = none) (m x y : Operand) (hop : o.op = Op.mapUpdate 56 m x y)
    {B n : Nat} {S : List Int} (hT : Mset w B n S) (hn : n < 4294967296) {z : Int} (hz : (Lit.int .i64 z).wf = true) (hm : a.eval m = .map (some B)) (hx : a.eval x = .int .i64 z) (hy : a.eval y = .bool true)
    (hK : ∀ w', Mset w' B (n + 1) (S ++ [z]) → w.grownBy w' (some B) → wpList Try.prog ops Q rest (a.put o.dst undef) w') : wpList Try.prog ops Q (o :: rest) a w := by
  obtain ⟨w', h1, h2, h3⟩ := hT.put hn hz
  refine wpList_plain hg fun K' hK' => ?_
  unfold Oper.wp
  simp [execOp, hop, hm, hx, hy, h1, Result.andThen]
  exact hK' _ _ (hK w' h2 h3)
/-- A range over the set is under way; left says of an integer whether it is still to come. -/
def Ranges (w : World) (B r n : Nat) (S : List Int) (left : Int → Bool) (cnt : Nat) : Prop := ∃ D lf, w.ranges Try.prog 3 bel B r n D lf cnt ∧ Says D S ∧ ∀ x, left x = lf (ki x)
section
variable {w w' : World} {B r n cnt : Nat} {S : List Int} {left : Int → Bool}
theorem Ranges.set (h : Ranges w B r n S left cnt) : Mset w B n S := by
  obtain ⟨D, lf, h1, h2, h3⟩ := h
  exact ⟨D, h1.owns, h2⟩
theorem Ranges.left_eq (h : Ranges w B r n S left cnt) : w.rangeLeft B r = cnt := by
  obtain ⟨D, lf, h1, h2, h3⟩ := h
  exact h1.left_eq
theorem Ranges.lt (h : Ranges w B r n S left cnt) : r < w.heap.size := by
  obtain ⟨D, lf, h1, h2, h3⟩ := h
  exact h1.lt
theorem Ranges.kept {row : Option Nat} (h : Ranges w B r n S left cnt) (hg : w.grownBy w' row) (hb : some B ≠ row) (hr : some r ≠ row) : Ranges w' B r n S left cnt := by
  obtain ⟨D, lf, h1, h2, h3⟩ := h
  exact ⟨D, lf, h1.kept hg hb hr, h2, h3⟩
end
theorem wpList_over (w : World) {ops : Array Oper} {rest : List Oper} {o : Oper} {a : Act} {Q : Exit → Act → World → Prop} (hg : o.guard = none) (m : Operand) (hop : o.op = Op.range 56 m)
    {B n : Nat} {S : List Int} (hT : Mset w B n S) (hm : a.eval m = .map (some B))
    (hK : ∀ w' left cnt, Ranges w' B w.heap.size n S left cnt → (∀ x ∈ S, left x = true) → w.grownBy w' none → wpList Try.prog ops Q rest (a.put o.dst (.pointer (some ⟨w.heap.size, 0, none⟩))) w') : wpList Try.prog ops Q (o :: rest) a w := by
  obtain ⟨D, h1, h2⟩ := hT
  refine wpList_range_own w hg m 56 hop 3 4 lawInt Try.underlying56 bel B n D hm h1 fun w' g1 g2 _ => ?_
  exact hK w' (fun x => Maps.has D (ki x)) _ ⟨D, _, g1, h2, fun x => rfl⟩ (fun x hx => ((h2 x).1 hx).1) g2
theorem wpList_each (w : World) {ops : Array Oper} {rest : List Oper} {o : Oper} {a : Act} {Q : Exit → Act → World → Prop} (hg : o.guard = none) (it : Operand) (hop : o.op = Op.next it false)
    {B r n cnt : Nat} {S : List Int} {left : Int → Bool} (h : Ranges w B r n S left cnt) (hit : a.eval it = .pointer (some ⟨r, 0, none⟩))
    (hDone : (∀ x, left x = false) → wpList Try.prog ops Q rest (a.put o.dst (.tuple #[.bool false])) w)
    (hMore : ∀ (x : Int) (c : Value) (w' : World) (cnt' : Nat), (Lit.int .i64 x).wf = true → x ∈ S → Ranges w' B r n S (fun y => left y && !decide (y = x)) cnt' → cnt' < cnt →
      w.grownBy w' (some r) → (Instr.entry (.pointer (some ⟨r, 0, none⟩))).run Try.prog w' = .ok (.tuple #[.int .i64 x, c]) w' → wpList Try.prog ops Q rest (a.put o.dst (.tuple #[.bool true, .int .i64 x, c])) w') :
    wpList Try.prog ops Q (o :: rest) a w := by
  obtain ⟨D, lf, h1, h2, h3⟩ := h
  refine wpList_next_ranges w hg it hop 3 lawInt bel (Value.int .i64) Value.bool (fun key kl hkey => by obtain ⟨x, rfl, _⟩ := Maps.keyOf_int_inv Try.underlying3 hkey; exact ⟨x, rfl⟩) (fun v y hv => by obtain ⟨c, rfl, _⟩ := bel_inv hv; exact ⟨c, rfl⟩)
    B r n D lf cnt hit h1 (fun _ hl => hDone fun x => by rw [h3]; exact hl _) fun x c kl y w' cnt' hkey hlk hv hat hrg hlt hgr hsz hen => ?_
  obtain ⟨x', ex, rfl, hwx⟩ := Maps.keyOf_int_inv Try.underlying3 hkey
  cases ex
  refine hMore x (.bool c) w' cnt' hwx ?_ ⟨D, _, hrg, h2, fun z => ?_⟩ hlt hgr hen
  · apply Classical.byContradiction
    intro hn
    have h4 := Maps.atKey_of_not_has ((h2 x).2 hn)
    have h5 := (h4 (.lit (.bool true))).symm.trans (hat (.lit (.bool true)))
    have h6 := (h4 (.lit (.bool false))).symm.trans (hat (.lit (.bool false)))
    rw [← h5] at h6
    cases h6
  · show (left z && _) = _
    rw [h3 z]
    congr 2
    show decide (z = x) = decide (IntKind.i64 = IntKind.i64 ∧ z = x)
    simp
end Go.Proofs.Ytcfgjlolabnolaa.mset
