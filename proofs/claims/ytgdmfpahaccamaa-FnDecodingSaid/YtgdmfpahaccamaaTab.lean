/- The table of survivors: a map keyed by a step and a state, told key by key; the operations on it. Condition: none. -/
import Derived.Test.YtgdmfpahaccamaaVit1
import Derived.Maps.OwnSet
namespace Go.Proofs.Ytgdmfpahaccamaa.tab
open Go.RowKit Go.Maps sl harn bm vit
set_option linter.unusedVariables false

theorem rowNode : (50 : TypeId) < Try.prog.types.size := of_decide_eq_true (by kernel_rfl)
theorem wideNode : (match Try.prog.underlying 50 with | some (.array _ _) | some (.struct _) => true | _ => false) = true := by kernel_rfl
theorem laidHere : laidOutB Try.prog = true := by kernel_rfl
theorem lawNode : Keyed Try.prog 50 := Keyed.of_law (deep_law_laid laidHere (m := 3) (by omega) rowNode (by kernel_rfl) wideNode)
theorem zeroSurv (w : World) : (zeroValue 52).run Try.prog w = .ok (.agg #[.int .i64 0, .int .i64 0, .int .i64 0]) w := by kernel_rfl
#print axioms lawNode
/-- A key. -/
def node (j t : Int) : Value := .agg #[.int .i64 j, .int .i64 t]
noncomputable def kl (j t : Int) : Lit := (keyOf Try.prog 50 (node j t)).getD (.bool false)
theorem sizeTypes : ∃ n, Try.prog.types.size = n + 1 := ⟨Try.prog.types.size - 1, (Nat.sub_add_cancel (show 1 ≤ Try.prog.types.size from of_decide_eq_true (by kernel_rfl))).symm⟩
theorem keyNode : Try.prog.keyType 50 = true := by kernel_rfl
theorem cellsNode : Try.prog.cellsOf 50 = 2 := by kernel_rfl
theorem cellsInt : Try.prog.cellsOf 3 = 1 := by kernel_rfl
theorem key_gen {P : Program} {k i : TypeId} {f0 f1 : Field} {n : Nat} (hk : P.underlying k = some (.struct #[f0, f1])) (hkt : P.keyType k = true) (hc : P.cellsOf k = 2) (hn : P.types.size = n + 1)
    (h0 : (f0.name != "_") = true) (h1 : (f1.name != "_") = true) (ho0 : f0.offset = 0) (ho1 : f1.offset = 1) (ht0 : f0.type = i) (ht1 : f1.type = i) (hi : P.underlying i = some (.int .i64)) (hci : P.cellsOf i = 1)
    {j t : Int} (hj : (Lit.int .i64 j).wf = true) (ht : (Lit.int .i64 t).wf = true) : (keyOf P k (.agg #[.int .i64 j, .int .i64 t])).isSome = true := by
  have hf : Value.formed P k (.agg #[.int .i64 j, .int .i64 t]) = true := by simp [Value.formed, hk, hc]
  have hl : P.keyLits (n + 1 + 1) k [.int .i64 j, .int .i64 t] = some [.int .i64 j, .int .i64 t] := by
    unfold Program.keyLits
    rw [hk]
    simp [hc, h0, h1, ho0, ho1, ht0, ht1, hci, Program.keyLits, hi, hj, ht, List.mapM_cons]
  unfold keyOf
  rw [hk]
  simp [hkt, hf, hn, Value.cells, hl]
theorem key_ok {j t : Int} (hj : (Lit.int .i64 j).wf = true) (ht : (Lit.int .i64 t).wf = true) : keyOf Try.prog 50 (node j t) = some (kl j t) := by
  obtain ⟨n, hn⟩ := sizeTypes
  have := key_gen Try.underlying50 keyNode cellsNode hn (by decide) (by decide) rfl rfl rfl rfl Try.underlying3 cellsInt hj ht
  obtain ⟨l, hl⟩ := Option.isSome_iff_exists.1 this
  unfold kl node
  rw [hl]; rfl
/-- The keys that are looked at. -/
def Nd (j t : Int) : Prop := (0 ≤ j ∧ j ≤ 10000) ∧ (0 ≤ t ∧ t ≤ 3)
theorem Nd.wj {j t : Int} (h : Nd j t) : (Lit.int .i64 j).wf = true := WalkArith.wf_i64 (by have := h.1; omega)
theorem Nd.wt {j t : Int} (h : Nd j t) : (Lit.int .i64 t).wf = true := WalkArith.wf_i64 (by have := h.2; omega)
theorem Nd.key {j t : Int} (h : Nd j t) : keyOf Try.prog 50 (node j t) = some (kl j t) := key_ok h.wj h.wt
theorem kl_inj {j t j' t' : Int} (h : Nd j t) (h' : Nd j' t') (e : kl j t = kl j' t') : j = j' ∧ t = t' := by
  have := lawNode.inj h.key (by rw [e]; exact h'.key)
  unfold node at this
  injection this with this
  simpa using this
theorem Nd.lit {j t : Int} (h : Nd j t) : WideAt.IsKeyLit (kl j t) := lawNode.key h.key
/-- An element. -/
def dat (d i s : Int) : DataW Unit := .agg [.lit (.int .i64 d), .lit (.int .i64 i), .lit (.int .i64 s)]
def ev (d i s : Int) : Value := .agg #[.int .i64 d, .int .i64 i, .int .i64 s]
def el : Value → Option (DataW Unit × List MemPlace)
  | .agg cs => match cs.toList with
    | [.int .i64 d, .int .i64 i, .int .i64 s] => some (dat d i s, [])
    | _ => none
  | _ => none
theorem el_mk (d i s : Int) : el (ev d i s) = some (dat d i s, []) := rfl
theorem el_inv {v : Value} {d i s : Int} {ps : List MemPlace} (h : el v = some (dat d i s, ps)) : v = ev d i s := by
  unfold el at h
  split at h
  · rename_i cs
    split at h
    · rename_i d' i' s' hcs
      simp only [Option.some.injEq, Prod.mk.injEq, dat, DataW.agg.injEq, List.cons.injEq, DataW.lit.injEq, Lit.int.injEq] at h
      obtain ⟨⟨⟨_, rfl⟩, ⟨_, rfl⟩, ⟨_, rfl⟩, _⟩, _⟩ := h
      unfold ev
      rw [← hcs]
    · cases h
  · cases h
abbrev Ent := Option (Int × Int × Int)
def Says (D : DataW Unit) (j t : Int) : Ent → Prop
  | none => Maps.has D (kl j t) = false
  | some (d, i, s) => Maps.has D (kl j t) = true ∧ ∀ z, D.atKey (kl j t) z = dat d i s
/-- Block B is a map of at most u entries that holds M at the keys that are looked at. -/
def Tab (w : World) (B u : Nat) (M : Int → Int → Ent) : Prop := ∃ n D, n ≤ u ∧ w.ownsMap Try.prog 50 el B n D ∧ ∀ j t, Nd j t → Says D j t (M j t)
section
variable {w w' : World} {B u : Nat} {M M' : Int → Int → Ent}
theorem Tab.kept {row : Option Nat} (h : Tab w B u M) (hg : w.grownBy w' row) (hne : some B ≠ row) : Tab w' B u M := by
  obtain ⟨n, D, h1, h2, h3⟩ := h
  exact ⟨n, D, h1, h2.kept hg hne, h3⟩
theorem Tab.alloc (h : Tab w B u M) (o : Obj) : Tab (w.alloc o) B u M := h.kept (World.grownBy_alloc w o none) (by simp)
theorem Tab.drew (h : Tab w B u M) : Tab w.drew B u M := h
theorem Tab.lt (h : Tab w B u M) : B < w.heap.size := by
  obtain ⟨n, D, h1, h2, h3⟩ := h
  exact h2.lt
theorem Tab.congr (h : Tab w B u M) (he : ∀ j t, Nd j t → M j t = M' j t) : Tab w B u M' := by
  obtain ⟨n, D, h1, h2, h3⟩ := h
  exact ⟨n, D, h1, h2, fun j t hn => by rw [← he j t hn]; exact h3 j t hn⟩
theorem Tab.mono (h : Tab w B u M) {u' : Nat} (hu : u ≤ u') : Tab w B u' M := by
  obtain ⟨n, D, h1, h2, h3⟩ := h
  exact ⟨n, D, by omega, h2, h3⟩
theorem Tab.block (h : Tab w B u M) (hs : w.heap.size ≤ w'.heap.size) (hb : w'.heap[B]? = w.heap[B]?) : Tab w' B u M := by
  obtain ⟨n, D, h1, ⟨es, clock, g1, g2⟩, h3⟩ := h
  exact ⟨n, D, h1, ⟨es, clock, by rw [hb]; exact g1, g2⟩, h3⟩
theorem Tab.made (w : World) : Tab (w.alloc (.map #[] 0)) w.heap.size 0 (fun _ _ => none) :=
  ⟨0, .map [], Nat.le_refl _, World.ownsMap_made w _ _ _, fun _ _ _ => rfl⟩
def upd (M : Int → Int → Ent) (j t d i s : Int) : Int → Int → Ent := fun j' t' => if j' = j ∧ t' = t then some (d, i, s) else M j' t'
theorem Tab.store (h : Tab w B u M) (hu : u < 1000000) {j t : Int} (hn : Nd j t) (d i s : Int) :
    ∃ w', (Instr.mapUpdate 53 (.map (some B)) (node j t) (ev d i s)).run Try.prog w = .ok () w' ∧ Tab w' B (u + 1) (upd M j t d i s) ∧ w.grownBy w' (some B) := by
  obtain ⟨n, D, h1, h2, h3⟩ := h
  obtain ⟨w', g1, g2, g3⟩ := h2.update (val := ev d i s) lawNode Try.underlying53 (by unfold maxLen; omega) hn.key (el_mk d i s)
  refine ⟨w', g1, ⟨n + 1, _, by omega, g2, fun j' t' hn' => ?_⟩, g3⟩
  unfold upd
  split
  · rename_i e
    obtain ⟨rfl, rfl⟩ := e
    exact ⟨Maps.has_put_same h2.isMap hn.lit _, fun z => Maps.atKey_put_same h2.isMap hn.lit _ z⟩
  · rename_i e
    have hne : kl j' t' ≠ kl j t := fun g => e (kl_inj hn' hn g)
    have := h3 j' t' hn'
    cases hM : M j' t' with
    | none => rw [hM] at this; show Maps.has _ _ = false; rw [Maps.has_put_other hne]; exact this
    | some x =>
      obtain ⟨d', i', s'⟩ := x
      rw [hM] at this
      exact ⟨by rw [Maps.has_put_other hne]; exact this.1, fun z => by rw [Maps.atKey_put_other hne]; exact this.2 z⟩
theorem Tab.none_ok (h : Tab w B u M) {j t : Int} (hn : Nd j t) (hM : M j t = none) :
    (Instr.lookup 53 (.map (some B)) (node j t) true).run Try.prog w = .ok (.tuple #[ev 0 0 0, .bool false]) w := by
  obtain ⟨n, D, h1, h2, h3⟩ := h
  have h4 := h3 j t hn
  rw [hM] at h4
  obtain ⟨v, ps, g1, g2⟩ := h2.look_ok lawNode Try.underlying53 (zeroSurv w) (el_mk 0 0 0) hn.key
  rw [Maps.atKey_of_not_has h4] at g2
  rw [g1, show Maps.has D (kl j t) = false from h4, el_inv g2]
theorem Tab.some_ok (h : Tab w B u M) {j t d i s : Int} (hn : Nd j t) (hM : M j t = some (d, i, s)) :
    (Instr.lookup 53 (.map (some B)) (node j t) true).run Try.prog w = .ok (.tuple #[ev d i s, .bool true]) w := by
  obtain ⟨n, D, h1, h2, h3⟩ := h
  have h4 := h3 j t hn
  rw [hM] at h4
  obtain ⟨v, ps, g1, g2⟩ := h2.look_ok lawNode Try.underlying53 (zeroSurv w) (el_mk 0 0 0) hn.key
  rw [h4.2] at g2
  rw [g1, show Maps.has D (kl j t) = true from h4.1, el_inv g2]
theorem Tab.some_at (h : Tab w B u M) {j t d i s : Int} (hn : Nd j t) (hM : M j t = some (d, i, s)) :
    (Instr.lookup 53 (.map (some B)) (node j t) false).run Try.prog w = .ok (ev d i s) w := by
  obtain ⟨n, D, h1, h2, h3⟩ := h
  have h4 := h3 j t hn
  rw [hM] at h4
  obtain ⟨v, ps, g1, g2⟩ := h2.lookup lawNode Try.underlying53 (zeroSurv w) (el_mk 0 0 0) hn.key
  rw [h4.2] at g2
  rw [g1, el_inv g2]
theorem Tab.no (h : Tab w B u M) {j t : Int} (hn : Nd j t) (hM : M j t = none) :
    (Instr.lookup 53 (.map (some B)) (.agg #[.int .i64 j, .int .i64 t]) true).run Try.prog w = .ok (.tuple #[.agg #[.int .i64 0, .int .i64 0, .int .i64 0], .bool false]) w := h.none_ok hn hM
theorem Tab.yes (h : Tab w B u M) {j t d i s : Int} (hn : Nd j t) (hM : M j t = some (d, i, s)) :
    (Instr.lookup 53 (.map (some B)) (.agg #[.int .i64 j, .int .i64 t]) true).run Try.prog w = .ok (.tuple #[.agg #[.int .i64 d, .int .i64 i, .int .i64 s], .bool true]) w := h.some_ok hn hM
theorem Tab.at_ (h : Tab w B u M) {j t d i s : Int} (hn : Nd j t) (hM : M j t = some (d, i, s)) :
    (Instr.lookup 53 (.map (some B)) (.agg #[.int .i64 j, .int .i64 t]) false).run Try.prog w = .ok (.agg #[.int .i64 d, .int .i64 i, .int .i64 s]) w := h.some_at hn hM
theorem Tab.put (h : Tab w B u M) (hu : u < 1000000) {j t : Int} (hn : Nd j t) (d i s : Int) :
    ∃ w', (Instr.mapUpdate 53 (.map (some B)) (.agg #[.int .i64 j, .int .i64 t]) (.agg #[.int .i64 d, .int .i64 i, .int .i64 s])).run Try.prog w = .ok () w' ∧ Tab w' B (u + 1) (upd M j t d i s) ∧ w.grownBy w' (some B) := h.store hu hn d i s
end
/-- A look-up at the operation, by its run. -/
theorem wpList_lookup_run {P : Program} (w : World) {ops : Array Oper} {rest : List Oper} {o : Oper} {a : Act} {Q : Exit → Act → World → Prop} (hg : o.guard = none) (m x : Operand) (t : TypeId) (c : Bool) (hop : o.op = Op.lookup t m x c)
    {mv kv v : Value} (hrun : (Instr.lookup t mv kv c).run P w = .ok v w) (hm : a.eval m = mv) (hx : a.eval x = kv) (hK : wpList P ops Q rest (a.put o.dst v) w) : wpList P ops Q (o :: rest) a w := by
  refine wpList_plain hg fun K' hK' => ?_
  unfold Oper.wp
  simp [execOp, hop, hm, hx, hrun, Result.andThen]
  exact hK' _ _ hK
/-- A store into a map at the operation, by its run. -/
theorem wpList_store_run {P : Program} (w : World) {ops : Array Oper} {rest : List Oper} {o : Oper} {a : Act} {Q : Exit → Act → World → Prop} (hg : o.guard = none) (m x y : Operand) (t : TypeId) (hop : o.op = Op.mapUpdate t m x y)
    {mv kv v : Value} {w' : World} (hrun : (Instr.mapUpdate t mv kv v).run P w = .ok () w') (hm : a.eval m = mv) (hx : a.eval x = kv) (hy : a.eval y = v) (hK : wpList P ops Q rest (a.put o.dst undef) w') : wpList P ops Q (o :: rest) a w := by
  refine wpList_plain hg fun K' hK' => ?_
  unfold Oper.wp
  simp [execOp, hop, hm, hx, hy, hrun, Result.andThen]
  exact hK' _ _ hK
theorem wpList_insert_run {P : Program} (w : World) {ops : Array Oper} {rest : List Oper} {o : Oper} {a : Act} {Q : Exit → Act → World → Prop} (hg : o.guard = none) (m x y : Operand) (t : TypeId) (hop : o.op = Op.insert t m x y)
    {mv kv v : Value} {w' : World} (hrun : (Instr.mapUpdate t mv kv v).run P w = .ok () w') (hm : a.eval m = mv) (hx : a.eval x = kv) (hy : a.eval y = v) (hK : wpList P ops Q rest (a.put o.dst undef) w') : wpList P ops Q (o :: rest) a w := by
  refine wpList_plain hg fun K' hK' => ?_
  unfold Oper.wp
  simp [execOp, hop, hm, hx, hy, hrun, Result.andThen]
  exact hK' _ _ hK
theorem wpList_put (w : World) {ops : Array Oper} {rest : List Oper} {o : Oper} {a : Act} {Q : Exit → Act → World → Prop} (hg : o.guard = none) (m x y : Operand) (hop : o.op = Op.mapUpdate 53 m x y)
    {B u : Nat} {M : Int → Int → Ent} (hT : Tab w B u M) (hu : u < 1000000) {j t d i s : Int} (hn : Nd j t) (hm : a.eval m = .map (some B)) (hx : a.eval x = .agg #[.int .i64 j, .int .i64 t]) (hy : a.eval y = .agg #[.int .i64 d, .int .i64 i, .int .i64 s])
    (hK : ∀ w', Tab w' B (u + 1) (upd M j t d i s) → w.grownBy w' (some B) → wpList Try.prog ops Q rest (a.put o.dst undef) w') : wpList Try.prog ops Q (o :: rest) a w := by
  obtain ⟨w', h1, h2, h3⟩ := hT.put hu hn d i s
  exact wpList_store_run w hg m x y _ hop h1 hm hx hy (hK w' h2 h3)
theorem wpList_ins (w : World) {ops : Array Oper} {rest : List Oper} {o : Oper} {a : Act} {Q : Exit → Act → World → Prop} (hg : o.guard = none) (m x y : Operand) (hop : o.op = Op.insert 53 m x y)
    {B u : Nat} {M : Int → Int → Ent} (hT : Tab w B u M) (hu : u < 1000000) {j t d i s : Int} (hn : Nd j t) (hm : a.eval m = .map (some B)) (hx : a.eval x = .agg #[.int .i64 j, .int .i64 t]) (hy : a.eval y = .agg #[.int .i64 d, .int .i64 i, .int .i64 s])
    (hK : ∀ w', Tab w' B (u + 1) (upd M j t d i s) → w.grownBy w' (some B) → wpList Try.prog ops Q rest (a.put o.dst undef) w') : wpList Try.prog ops Q (o :: rest) a w := by
  obtain ⟨w', h1, h2, h3⟩ := hT.put hu hn d i s
  exact wpList_insert_run w hg m x y _ hop h1 hm hx hy (hK w' h2 h3)
/-- The table of the decoder: after k whole steps, the bits below b of the next one, and bit b from the states below m. -/
def ent (c i s : Int) : Ent := if c < 0 then none else some (c, i, s)
def lv (b m t : Int) : Int := if t % 2 < b then 4 else if t % 2 = b then m else 0
def back (zs : List Int) : Nat → Int → Ent
  | 0, t => ent (cost zs 0 t) 0 0
  | k + 1, t => ent (cost zs (k + 1) t) k (pre zs k t)
def srv (zs : List Int) (k : Nat) (b m : Int) (j t : Int) : Ent :=
  if j ≤ k then back zs j.toNat t
  else if j = k + 1 then ent (vit.part (cost zs k) (zs.getD (2 * k) 0) (zs.getD (2 * k + 1) 0) (lv b m t) t) k (from_ (cost zs k) (zs.getD (2 * k) 0) (zs.getD (2 * k + 1) 0) (lv b m t) t)
  else none
theorem ent_no {c i s : Int} (h : c < 0) : ent c i s = none := if_pos h
theorem ent_yes {c i s : Int} (h : ¬ c < 0) : ent c i s = some (c, i, s) := if_neg h
theorem srv_low {zs : List Int} {k : Nat} {b m j t : Int} {i : Nat} (hj : j = i) (hi : i ≤ k) : srv zs k b m j t = back zs i t := by
  unfold srv; rw [if_pos (by omega), hj, Int.toNat_natCast]
theorem back_no {zs : List Int} {k : Nat} {t : Int} (h : cost zs k t < 0) : back zs k t = none := by
  cases k <;> exact ent_no h
theorem back_yes {zs : List Int} {k : Nat} {t : Int} (h : ¬ cost zs k t < 0) : ∃ i s, back zs k t = some (cost zs k t, i, s) := by
  cases k
  · exact ⟨_, _, ent_yes h⟩
  · exact ⟨_, _, ent_yes h⟩
theorem srv_high (zs : List Int) (k : Nat) (b m t : Int) : srv zs k b m (k + 1) t = ent (vit.part (cost zs k) (zs.getD (2 * k) 0) (zs.getD (2 * k + 1) 0) (lv b m t) t) k (from_ (cost zs k) (zs.getD (2 * k) 0) (zs.getD (2 * k + 1) 0) (lv b m t) t) := by
  unfold srv; rw [if_neg (by omega), if_pos rfl]
theorem lv_same {b t : Int} (h : t % 2 = b) (m : Int) : lv b m t = m := by unfold lv; rw [if_neg (by omega), if_pos h]
theorem lv_other {b t : Int} (h : ¬ t % 2 = b) (m m' : Int) : lv b m t = lv b m' t := by unfold lv; rw [if_neg h, if_neg h]
theorem srv_start (zs : List Int) (j t : Int) (h : Nd j t) : upd (fun _ _ => none) 0 0 0 0 0 j t = srv zs 0 0 0 j t := by
  obtain ⟨⟨hj, _⟩, ht, _⟩ := h
  unfold upd srv
  by_cases h0 : j = 0
  · subst h0
    rw [if_pos (show (0 : Int) ≤ ((0 : Nat) : Int) by omega)]
    by_cases h1 : t = 0
    · subst h1; rfl
    · rw [if_neg (by omega)]
      show _ = ent (cost zs 0 t) 0 0
      unfold cost
      rw [if_neg h1]; rfl
  · rw [if_neg (by omega), if_neg (by omega)]
    split
    · have : lv 0 0 t = 0 := by unfold lv; split <;> (try split) <;> omega
      rw [this, part_zero _ _ _ _ ht]; rfl
    · rfl
theorem srv_bit (zs : List Int) (k : Nat) (j t : Int) (h : Nd j t) : srv zs k 0 4 j t = srv zs k 1 0 j t := by
  have : lv 0 4 t = lv 1 0 t := by unfold lv; split <;> split <;> (try split) <;> omega
  unfold srv; rw [this]
theorem srv_next (zs : List Int) (k : Nat) (j t : Int) (h : Nd j t) : srv zs k 1 4 j t = srv zs (k + 1) 0 0 j t := by
  obtain ⟨⟨hj, _⟩, ht, _⟩ := h
  have h4 : lv 1 4 t = 4 := by unfold lv; split <;> (try split) <;> omega
  have h0 : lv 0 0 t = 0 := by unfold lv; split <;> (try split) <;> omega
  unfold srv
  rw [h4, h0]
  by_cases h1 : j ≤ k
  · rw [if_pos h1, if_pos (by omega)]
  · rw [if_neg h1]
    by_cases h2 : j = k + 1
    · rw [if_pos h2, if_pos (by omega)]
      have : j.toNat = k + 1 := by omega
      rw [this]; rfl
    · rw [if_neg h2, if_neg (by omega), part_zero _ _ _ _ ht]
      split <;> rfl
/-- What the state m does to the table. -/
theorem srv_none (zs : List Int) (k : Nat) (b m : Int) (hc : cost zs k m < 0) (j t : Int) (h : Nd j t) : srv zs k b m j t = srv zs k b (m + 1) j t := by
  obtain ⟨_, ht⟩ := h
  unfold srv
  by_cases hb : t % 2 = b
  · rw [lv_same hb, lv_same hb, part_none _ _ _ ht hc, from_none _ _ _ ht hc]
  · rw [lv_other hb m (m + 1)]
theorem srv_other (zs : List Int) (k : Nat) {b m : Int} (hs : cvm.Sb m b) {j t : Int} (h : Nd j t) (hne : ¬ (j = k + 1 ∧ t = cvm.nst m b)) : srv zs k b m j t = srv zs k b (m + 1) j t := by
  obtain ⟨_, ht0, ht3⟩ := h
  obtain ⟨⟨hm0, hm3⟩, hb0, hb1⟩ := hs
  unfold srv
  by_cases hj : j = k + 1
  · by_cases hb : t % 2 = b
    · have : ¬ t = cvm.nst m b := fun e => hne ⟨hj, e⟩
      unfold cvm.nst at this
      rw [lv_same hb, lv_same hb, part_other (m := m) (t := t) _ _ _ ⟨ht0, ht3⟩ (by omega) (by omega), from_other (m := m) (t := t) _ _ _ ⟨ht0, ht3⟩ (by omega) (by omega)]
    · rw [lv_other hb m (m + 1)]
  · rw [if_neg hj, if_neg hj]
theorem srv_worse (zs : List Int) (k : Nat) {b m d : Int} (hs : cvm.Sb m b) (hc : ¬ cost zs k m < 0) (hd : cost zs k m + bd m b (zs.getD (2 * k) 0) (zs.getD (2 * k + 1) 0) = d)
    (hl : ¬ (vit.part (cost zs k) (zs.getD (2 * k) 0) (zs.getD (2 * k + 1) 0) m (cvm.nst m b) < 0 ∨ d < vit.part (cost zs k) (zs.getD (2 * k) 0) (zs.getD (2 * k + 1) 0) m (cvm.nst m b))) (j t : Int) (h : Nd j t) :
    srv zs k b m j t = srv zs k b (m + 1) j t := by
  by_cases hne : j = k + 1 ∧ t = cvm.nst m b
  · obtain ⟨rfl, e⟩ := hne
    have hb : t % 2 = b := by subst e; unfold cvm.nst; have := hs.1; have := hs.2; omega
    rw [srv_high, srv_high, lv_same hb, lv_same hb, (part_worse _ _ _ e hs (by omega) hd (by rw [e]; exact hl)).1, (part_worse _ _ _ e hs (by omega) hd (by rw [e]; exact hl)).2]
  · exact srv_other zs k hs h hne
theorem srv_better (zs : List Int) (k : Nat) {b m d : Int} (hs : cvm.Sb m b) (hc : ¬ cost zs k m < 0) (hd : cost zs k m + bd m b (zs.getD (2 * k) 0) (zs.getD (2 * k + 1) 0) = d)
    (hl : vit.part (cost zs k) (zs.getD (2 * k) 0) (zs.getD (2 * k + 1) 0) m (cvm.nst m b) < 0 ∨ d < vit.part (cost zs k) (zs.getD (2 * k) 0) (zs.getD (2 * k + 1) 0) m (cvm.nst m b)) (j t : Int) (h : Nd j t) :
    upd (srv zs k b m) (k + 1) (cvm.nst m b) d k m j t = srv zs k b (m + 1) j t := by
  unfold upd
  split
  · rename_i hne
    obtain ⟨rfl, e⟩ := hne
    have hb : t % 2 = b := by subst e; unfold cvm.nst; have := hs.1; have := hs.2; omega
    have hb2 := bd_in m b (zs.getD (2 * k) 0) (zs.getD (2 * k + 1) 0)
    rw [srv_high, lv_same hb, (part_better _ _ _ e hs (by omega) hd (by rw [e]; exact hl)).1, (part_better _ _ _ e hs (by omega) hd (by rw [e]; exact hl)).2, ent_yes (by omega)]
  · rename_i hne
    exact srv_other zs k hs h hne
end Go.Proofs.Ytgdmfpahaccamaa.tab
