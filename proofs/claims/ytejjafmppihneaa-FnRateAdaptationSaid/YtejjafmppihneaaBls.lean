/- Slices of bools in memory: what a slice that is read holds (Rb), what a slice of the call's own holds (Ob), appends, copies, comparisons. Condition: lengths up to 2^26. -/
import Derived.Test.YtejjafmppihneaaHarn
import Derived.Test.YtejjafmppihneaaApp
import Derived.Test.YtejjafmppihneaaBox
import Derived.Test.YtejjafmppihneaaRc1
namespace Go.Proofs.Ytejjafmppihneaa.bls
open Go.RowKit sl harn bx
set_option linter.unusedVariables false

/-- A slice of bools that is read: its address is looked at only where there is an element. -/
def Rb (w : World) (lo hi : Nat) (A : Option Addr) (n cap : Nat) (l : List Bool) : Prop :=
  l.length = n ∧ n ≤ cap ∧ cap ≤ maxLen ∧ hi ≤ w.heap.size ∧ (0 < n → ∃ b off, A = some ⟨b, off, none⟩ ∧ lo ≤ b ∧ b < hi ∧ ∀ i, i < n → w.cell? ⟨b, off + i, none⟩ = some (.bool (l.getD i false)))
/-- A slice of bools that the call itself has made. -/
def Ob (w : World) (lo hi : Nat) (A : Option Addr) (n cap : Nat) (l : List Bool) : Prop :=
  w.ownsRow lo 4 1 (.slice A n cap) n (l.map Value.bool) ∧ hi ≤ w.heap.size ∧ ∀ g o, A = some ⟨g, o, none⟩ → g < hi
section
variable {w w' : World} {lo hi n cap : Nat} {A : Option Addr} {l : List Bool}
theorem Rb.len (h : Rb w lo hi A n cap l) : l.length = n := h.1
theorem Rb.cap_ (h : Rb w lo hi A n cap l) : n ≤ cap ∧ cap ≤ 9223372036854775807 := ⟨h.2.1, by have := h.2.2.1; unfold maxLen at this; omega⟩
theorem Rb.hi_ (h : Rb w lo hi A n cap l) : hi ≤ w.heap.size := h.2.2.2.1
theorem Rb.at_ (h : Rb w lo hi A n cap l) {i : Nat} (hi' : i < n) : ∃ b off, A = some ⟨b, off, none⟩ ∧ lo ≤ b ∧ b < hi ∧ w.cell? ⟨b, off + i, none⟩ = some (.bool (l.getD i false)) := by
  obtain ⟨b, off, e, h1, h2, h3⟩ := h.2.2.2.2 (by omega)
  exact ⟨b, off, e, h1, h2, h3 i hi'⟩
theorem Rb.same (h : Rb w lo hi A n cap l) (hs : w.heap.size ≤ w'.heap.size) (hb : ∀ b, lo ≤ b → b < hi → w'.heap[b]? = w.heap[b]?) : Rb w' lo hi A n cap l := by
  obtain ⟨h1, h2, h3, h4, h6⟩ := h
  refine ⟨h1, h2, h3, by omega, fun hn => ?_⟩
  obtain ⟨b, off, e, g1, g2, g3⟩ := h6 hn
  exact ⟨b, off, e, g1, g2, fun i hi => (World.cell?_of_block (w := w) (hb b g1 g2)).trans (g3 i hi)⟩
theorem Rb.below (h : Rb w lo hi A n cap l) (hb : Below w.heap.size w w') : Rb w' lo hi A n cap l :=
  h.same hb.size fun b _ hlt => hb.block b (by have := h.hi_; omega)
theorem Rb.alloc (h : Rb w lo hi A n cap l) (o : Obj) : Rb (w.alloc o) lo hi A n cap l := h.below ((Below.refl _ _).alloc (Nat.le_refl _) _)
theorem Rb.nil (w : World) (A : Option Addr) (cap lo hi : Nat) (hc : cap ≤ maxLen) (hh : hi ≤ w.heap.size) : Rb w lo hi A 0 cap [] :=
  ⟨rfl, by omega, hc, hh, fun h => absurd h (by omega)⟩
theorem Ob.len (h : Ob w lo hi A n cap l) : l.length = n := by have := h.1.1; simpa using this
theorem Ob.hi_ (h : Ob w lo hi A n cap l) : hi ≤ w.heap.size := h.2.1
theorem Ob.form (h : Ob w lo hi A n cap l) : (A = none ∧ n = 0 ∧ cap = 0) ∨ ∃ g cur, A = some ⟨g, 0, none⟩ ∧ lo ≤ g ∧ g < hi ∧ w.heap[g]? = some (.cells cur 4 (0, 0)) ∧ n ≤ cap ∧ cap ≤ maxLen ∧ cur.size = cap ∧ cur.toList.take n = l.map Value.bool := by
  rcases h.1.2 with ⟨e, h0⟩ | ⟨g, c, cur, e, h1, h2, h3, h4, h5, h6⟩
  · injection e with e1 e2 e3
    exact Or.inl ⟨e1, e2, e3⟩
  · injection e with e1 e2 e3
    subst e3
    exact Or.inr ⟨g, cur, e1, h1, h.2.2 g 0 e1, h2, h3, h4, by simpa using h5, by simpa using h6⟩
theorem Ob.rb (h : Ob w lo hi A n cap l) : Rb w lo hi A n cap l := by
  have hl := h.len
  rcases h.form with ⟨rfl, rfl, rfl⟩ | ⟨g, cur, rfl, h1, h2, h3, h4, h5, h6, h7⟩
  · exact ⟨hl, Nat.le_refl _, by unfold maxLen; omega, h.hi_, fun h => absurd h (by omega)⟩
  · refine ⟨hl, h4, h5, h.hi_, fun _ => ⟨g, 0, rfl, h1, h2, fun i hi' => ?_⟩⟩
    have hc := h.1.cellAt i (by simpa using hi')
    rw [Nat.zero_add, hc]
    rw [List.getElem?_map, List.getD_eq_getElem?_getD, List.getElem?_eq_getElem (show i < l.length by omega)]
    rfl
theorem Ob.same (h : Ob w lo hi A n cap l) (hs : w.heap.size ≤ w'.heap.size) (hb : ∀ b, lo ≤ b → b < hi → w'.heap[b]? = w.heap[b]?) : Ob w' lo hi A n cap l := by
  obtain ⟨⟨h1, h2⟩, h4, h5⟩ := h
  refine ⟨⟨h1, ?_⟩, by omega, h5⟩
  rcases h2 with h2 | ⟨g, c, cur, e, g1, g2, g3⟩
  · exact Or.inl h2
  · injection e with e1 e2 e3
    refine Or.inr ⟨g, c, cur, by rw [e1, e3], g1, ?_, g3⟩
    rw [hb g g1 (h5 g 0 e1)]; exact g2
theorem Ob.below (h : Ob w lo hi A n cap l) (hb : Below w.heap.size w w') : Ob w' lo hi A n cap l :=
  h.same hb.size fun b _ hlt => hb.block b (by have := h.hi_; omega)
theorem Ob.alloc (h : Ob w lo hi A n cap l) (o : Obj) : Ob (w.alloc o) lo hi A n cap l := h.below ((Below.refl _ _).alloc (Nat.le_refl _) _)
theorem Ob.up (h : Ob w lo hi A n cap l) : Ob w lo w.heap.size A n cap l := ⟨h.1, Nat.le_refl _, fun g o e => by have := h.2.2 g o e; have := h.hi_; omega⟩
theorem Ob.down {lo2 : Nat} (h : Ob w lo hi A n cap l) (hl : lo2 ≤ lo) : Ob w lo2 hi A n cap l := by
  obtain ⟨⟨h1, h2⟩, h4, h5⟩ := h
  refine ⟨⟨h1, ?_⟩, h4, h5⟩
  rcases h2 with h2 | ⟨g, c, cur, e, g1, g2⟩
  · exact Or.inl h2
  · exact Or.inr ⟨g, c, cur, e, by omega, g2⟩
theorem Ob.of_own {v : Value} (h : w.ownsRow lo 4 1 v n (l.map Value.bool)) : ∃ A cap, v = .slice A n cap ∧ Ob w lo w.heap.size A n cap l := by
  rcases h.2 with ⟨rfl, rfl⟩ | ⟨g, c, cur, rfl, h1, h2, h3⟩
  · exact ⟨none, 0, rfl, h, Nat.le_refl _, fun _ _ e => by cases e⟩
  · exact ⟨_, c, rfl, h, Nat.le_refl _, fun b o e => by injection e with e; injection e with e _; subst e; exact lt_of_block h2⟩
/-- A new row that is written out. -/
theorem Ob.lit (w : World) (cs : Array Value) (l : List Bool) (hcs : cs.toList = l.map Value.bool) (hl : l.length ≤ maxLen) (hn : cs.size = n) :
    Ob (w.alloc (.cells cs 4)) w.heap.size (w.alloc (.cells cs 4)).heap.size (some ⟨w.heap.size, 0, none⟩) n n l := by
  have hz : cs.size = l.length := by have := congrArg List.length hcs; simpa using this
  have := World.ownsRow_lit (e := 4) (size := 1) (base := w.heap.size) w cs n (Nat.le_refl _) (by omega) (by omega)
  rw [hcs] at this
  exact ⟨this, Nat.le_refl _, fun g o e => by injection e with e; injection e with e _; subst e; simp⟩
/-- The same of a block told by its cells. -/
theorem Ob.of_bx {b : Nat} {cs : Array Value} (h : Bx 4 w b cs) (hlo : lo ≤ b) (hcs : cs.toList = l.map Value.bool) (hl : l.length ≤ maxLen) (hn : cs.size = n) : Ob w lo w.heap.size (some ⟨b, 0, none⟩) n n l := by
  have hz : cs.size = l.length := by have := congrArg List.length hcs; simpa using this
  refine ⟨⟨by simp; omega, Or.inr ⟨b, n, cs, rfl, hlo, h, Nat.le_refl _, by omega, by omega, ?_⟩⟩, Nat.le_refl _, fun g o e => by injection e with e; injection e with e _; subst e; exact h.lt⟩
  rw [Nat.mul_one, hcs, List.take_of_length_le (by simp; omega)]
end
theorem one_cells (l : List Bool) : ∀ u ∈ l.map Value.bool, u.oneCell' = true := by
  intro u hu
  obtain ⟨z, _, rfl⟩ := List.mem_map.1 hu
  rfl
/-- What a function hands back that makes a slice of bools. -/
def SbPost (w : World) (l : List Bool) (e : Ending) (w' : World) : Prop :=
  ∃ A n cap, e = .returned (.slice A n cap) ∧ Ob w' w.heap.size w'.heap.size A n cap l ∧ Below w.heap.size w w'
theorem made_false (n : Nat) : (madeCells #[.bool false] n).toList = (List.replicate n false).map Value.bool := by
  apply List.ext_getElem?
  intro i
  rw [Array.getElem?_toList]
  by_cases h : i < n
  · rw [made_at _ _ _ h]; simp [h]
  · rw [Array.getElem?_eq_none (by rw [size_madeCells]; omega), List.getElem?_eq_none (by simp; omega)]

theorem app {P : Program} (t ty : TypeId) (i : TypeInfo) (z : Value) (h1 : P.underlying t = some (.slice 4)) (h2 : P.info? 4 = some i) (h3 : i.zero = some z) (h4 : i.size = 1) (h5 : i.bytes ≤ 8) (h6 : z.cells.size = 1)
    {w : World} {lo hi n cap : Nat} {A : Option Addr} {l : List Bool} {q : Nat} {x : Bool} (ho : Ob w lo hi A n cap l) (hx : w.cell? ⟨q, 0, none⟩ = some (.bool x)) (hn : n + 1 ≤ 1073741824) (hlo : lo ≤ w.heap.size) :
    ∃ A' cap' w', (Builtin.append_ #[t, t] ty #[.slice A n cap, .slice (some ⟨q, 0, none⟩) 1 1]).run P w = .ok (.slice A' (n + 1) cap') w' ∧ Ob w' lo w'.heap.size A' (n + 1) cap' (l ++ [x]) ∧ Below lo w w' := by
  have hb8 : (n + 1) * i.bytes ≤ 140737488355328 := by
    have := Nat.mul_le_mul hn h5
    omega
  obtain ⟨v', w', hrun, g1, g2, _, g3⟩ := run_append_own_at (P := P) w lo t ty 4 i z 1 i.bytes h1 h2 h3 h4 rfl h6 (by omega) _ n _ ho.1 ⟨q, 0, none⟩ 1 1 ([x].map Value.bool) (by simp) (by
    intro j u hu
    have hj : j = 0 := by
      have := (List.getElem?_eq_some_iff.1 hu).1
      simp at this; omega
    subst hj
    have : u = .bool x := by simpa using hu.symm
    subst this
    exact hx) (one_cells [x]) (by unfold maxLen; omega) hb8 hlo
  rw [← List.map_append] at g1
  obtain ⟨A', cap', rfl, hO⟩ := Ob.of_own g1
  refine ⟨A', cap', w', hrun, hO, (Below.refl _ _).grown g2 hlo fun q hq => ?_⟩
  rcases ho.form with ⟨rfl, _⟩ | ⟨g, cur, rfl, hg, _⟩
  · simp [Value.ownBlock] at hq
  · simp [Value.ownBlock] at hq; omega
theorem wpList_app {P : Program} (w : World) {ops : Array Oper} {rest : List Oper} {o : Oper} {a : Act} {Q : Exit → Act → World → Prop} (hg : o.guard = none) (s x : Operand) (t : TypeId)
    (hop : o.op = .call { callee := .builtin .append, args := #[s, x], argTypes := #[t, t] })
    (i : TypeInfo) (z : Value) (h1 : P.underlying t = some (.slice 4)) (h2 : P.info? 4 = some i) (h3 : i.zero = some z) (h4 : i.size = 1) (h5 : i.bytes ≤ 8) (h6 : z.cells.size = 1)
    {lo hi n cap q : Nat} {A : Option Addr} {l : List Bool} {y : Bool} (hs : a.eval s = .slice A n cap) (hx : a.eval x = .slice (some ⟨q, 0, none⟩) 1 1) (ho : Ob w lo hi A n cap l) (hr : w.cell? ⟨q, 0, none⟩ = some (.bool y)) (hn : n + 1 ≤ 1073741824) (hlo : lo ≤ w.heap.size)
    (hK : ∀ A' cap' w', Ob w' lo w'.heap.size A' (n + 1) cap' (l ++ [y]) → Below lo w w' → wpList P ops Q rest (a.put o.dst (.slice A' (n + 1) cap')) w') : wpList P ops Q (o :: rest) a w := by
  refine wpList_plain hg fun K hK' => ?_
  obtain ⟨A', cap', w', hrun, g1, g2⟩ := app (P := P) t o.type i z h1 h2 h3 h4 h5 h6 ho hr hn hlo
  unfold Oper.wp execOp
  simp only [hop, resolve, invoke, builtin, Sem.run_bind, Sem.run_pure, Result.andThen_ok, List.map_toArray, List.map_cons, List.map_nil, hs, hx, hrun]
  exact hK' _ _ (hK A' cap' w' g1 g2)

/-- A copy that has come to k. -/
def Pb (w wr : World) (n k : Nat) (l : List Bool) : Prop :=
  ∃ cs, wr.heap[w.heap.size]? = some (.cells cs 4 (0, 0)) ∧ cs.size = n ∧ (∀ j, j < k → cs[j]? = some (.bool (l.getD j false))) ∧ Below w.heap.size w wr
theorem Pb.start (w : World) (n : Nat) (l : List Bool) (z : Array Value) : Pb w (w.alloc (.cells (madeCells z n) 4)) n 0 l :=
  ⟨_, heap_alloc_new w _, size_madeCells z n, fun j h => absurd h (by omega), (Below.refl _ _).alloc (Nat.le_refl _) _⟩
section
variable {w wr : World} {n k : Nat} {l : List Bool}
theorem Pb.cell (h : Pb w wr n k l) (hk : k < n) : ∃ v, wr.cell? ⟨w.heap.size, k, none⟩ = some v := by
  obtain ⟨cs, h1, h2, _⟩ := h
  exact ⟨cs[k]'(by omega), by simp [World.cell?, h1]⟩
theorem Pb.free (h : Pb w wr n k l) (i : Nat) : wr.frozen? ⟨w.heap.size, i, none⟩ = false := by
  obtain ⟨cs, h1, _⟩ := h
  simp [World.frozen?, h1]
theorem Pb.step (h : Pb w wr n k l) (hk : k < n) : Pb w (wr.setCell ⟨w.heap.size, k, none⟩ (.bool (l.getD k false))) n (k + 1) l := by
  obtain ⟨cs, h1, h2, h3, h4⟩ := h
  refine ⟨cs.setIfInBounds k (.bool (l.getD k false)), ?_, by simpa using h2, fun j hj => ?_, h4.setCell (Nat.le_refl _) _⟩
  · exact heap_setCell_same wr w.heap.size k cs 4 _ h1
  · rcases Nat.lt_or_ge j k with hlt | hge
    · rw [Array.getElem?_setIfInBounds_ne (by omega)]; exact h3 j hlt
    · have : j = k := by omega
      subst this
      rw [Array.getElem?_setIfInBounds_self_of_lt (by omega)]
theorem Pb.done (h : Pb w wr n n l) (hl : l.length = n) (hm : n ≤ maxLen) : SbPost w l (.returned (.slice (some ⟨w.heap.size, 0, none⟩) n n)) wr := by
  obtain ⟨cs, h1, h2, h3, h4⟩ := h
  have e : cs.toList = l.map Value.bool := by
    apply List.ext_getElem?
    intro i
    rw [Array.getElem?_toList, List.getElem?_map]
    rcases Nat.lt_or_ge i n with hi | hi
    · rw [h3 i hi, List.getElem?_eq_getElem (show i < l.length by omega), List.getD_eq_getElem?_getD, List.getElem?_eq_getElem (show i < l.length by omega)]
      rfl
    · rw [Array.getElem?_eq_none (by omega), List.getElem?_eq_none (by omega)]; rfl
  exact ⟨_, _, _, rfl, Ob.of_bx (show Bx 4 wr w.heap.size cs from h1) (Nat.le_refl _) e (by omega) h2, h4⟩
theorem rb_part {lo hi cap : Nat} {A : Option Addr} (r : Rb w lo hi A n cap l) (h : Pb w wr n k l) : Rb wr lo hi A n cap l := by
  obtain ⟨cs, _, _, _, h4⟩ := h
  exact r.below h4
end
theorem toBoolS (l : List Bool) (lo hi : Nat) (A : Option Addr) (n cap : Nat) (w : World) (h : Rb w lo hi A n cap l) (hn : n ≤ 67108864) :
    Calls Try.prog 34 #[.slice A n cap] w (SbPost w l) := by
  obtain ⟨i0, hi0, hz0, hz1, hz2⟩ := info_parts boolInfo
  have hmk := fun W => run_make1 (P := Try.prog) 36 4 i0 _ Try.underlying36 hi0 hz0 hz1 n (by omega) hn W
  have HR := Lib.hid h
  clear h hz2 hz1 hz0 hi0
  go_enter Try.func34, Try.ntmps34
  go_wp2
  go_loopw [4] (fun i wr => ∃ k : Nat, i = .int .i64 k ∧ k ≤ n ∧ Pb w wr n k l) (fun i _ => n - (intOf i).toNat)
  case atStart => exact ⟨0, rfl, by omega, Pb.start _ _ _ _⟩
  case round =>
    obtain ⟨k, rfl, hk, hp⟩ := hrel
    have HP := Lib.hid hp
    clear hp
    by_cases hlt : k < n
    · obtain ⟨b, off, rfl, h1, h2, hc⟩ := (rb_part HR.out HP.out).at_ hlt
      obtain ⟨v, hv⟩ := HP.out.cell hlt
      have hf := HP.out.free k
      have hlt2 : (k : Int) < n := by omega
      go_wp2
      go_roundw
      case rel => exact ⟨k + 1, by go_num, by omega, HP.out.step hlt⟩
      case measure => simp [intOf]; omega
    · have hlt2 : ¬ (k : Int) < n := by omega
      go_wp2
      go_ret
      obtain rfl : k = n := by omega
      exact HP.out.done HR.out.len (by unfold maxLen; omega)
theorem eqBoolS_yes (l : List Bool) (lo hi lo2 hi2 : Nat) (A A2 : Option Addr) (n cap cap2 : Nat) (w : World) (h : Rb w lo hi A n cap l) (h2 : Rb w lo2 hi2 A2 n cap2 l) :
    Calls Try.prog 35 #[.slice A n cap, .slice A2 n cap2] w fun e w' => e = .returned (.bool true) ∧ Below w.heap.size w w' := by
  have hb := h.cap_
  have hb2 := h2.cap_
  have HR := Lib.hid h
  have HS := Lib.hid h2
  clear h h2
  go_enter Try.func35, Try.ntmps35
  go_wp2
  go_loopw [5] (fun i wr => ∃ k m : Nat, i = .int .i64 k ∧ k ≤ n ∧ wr = w.drewN m) (fun i _ => n - (intOf i).toNat)
  case atStart => exact ⟨0, 0, rfl, by omega, rfl⟩
  case round =>
    obtain ⟨k, m, rfl, hk, rfl⟩ := hrel
    by_cases hlt : k < n
    · obtain ⟨b, off, rfl, h1, h2, hc⟩ := HR.out.at_ hlt
      obtain ⟨b2, off2, rfl, h3, h4, hc2⟩ := HS.out.at_ hlt
      obtain ⟨x, hx⟩ : ∃ x, l.getD k false = x := ⟨_, rfl⟩
      rw [hx] at hc hc2
      clear hx
      have hlt2 : (k : Int) < n := by omega
      cases x with
      | true =>
        go_wp2
        go_quiet (fail)
        go_wp2
        go_roundw
        case rel => exact ⟨k + 1, _, by go_num, by omega, rfl⟩
        case measure => simp [intOf]; omega
      | false =>
        go_wp2
        go_quiet (fail)
        go_wp2
        go_roundw
        case rel => exact ⟨k + 1, _, by go_num, by omega, rfl⟩
        case measure => simp [intOf]; omega
    · have hlt2 : ¬ (k : Int) < n := by omega
      obtain rfl : k = n := by omega
      go_wp2
      go_ret
      exact ⟨rfl, ⟨rfl, rfl, rfl, Nat.le_refl _, fun _ _ => rfl⟩⟩
end Go.Proofs.Ytejjafmppihneaa.bls
