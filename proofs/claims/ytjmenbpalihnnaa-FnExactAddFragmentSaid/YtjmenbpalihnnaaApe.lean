/- An append onto an empty slice without room: what was there stays; rows of the call's own as values of a region. Condition: none. -/
import Derived.Test.YtjmenbpalihnnaaStp
import Derived.Test.YtjmenbpalihnnaaReg
import Derived.Test.YtjmenbpalihnnaaMrf
namespace Go.Proofs.Ytjmenbpalihnnaa.stw
open Go Go.RowKit sl harn bx
set_option linter.unusedVariables false

theorem app_empty {P : Program} (t ty E : TypeId) (i : TypeInfo) (z : Value) (k : IntKind) (h1 : P.underlying t = some (.slice E)) (h2 : P.info? E = some i) (h3 : i.zero = some z) (h4 : i.size = 1) (h5 : i.bytes ≤ 8) (h6 : z.cells.size = 1)
    {w : World} {lo hi lo2 hi2 m c q : Nat} {B : Option Addr} {ys : List Int} (ho : Ow E k w lo hi (some ⟨q, 0, none⟩) 0 0 []) (hr : Rd k w lo2 hi2 B m c ys) (hn : m ≤ 67108864) (hlo : lo ≤ w.heap.size) :
    ∃ A' cap' w', (Builtin.append_ #[t, t] ty #[.slice (some ⟨q, 0, none⟩) 0 0, .slice B m c]).run P w = .ok (.slice A' m cap') w' ∧ Ow E k w' lo w'.heap.size A' m cap' ys ∧ Below w.heap.size w w' := by
  obtain ⟨A', cap', w', hrun, g1, _, _⟩ := stp.app_spare (P := P) t ty E i z k h1 h2 h3 h4 h5 h6 ho hr (by omega) hlo (c1 := 0) (c2 := 0) (fun b h => by omega) (Nat.zero_le _)
  rw [Nat.zero_add] at hrun g1
  rw [List.nil_append] at g1
  refine ⟨A', cap', w', hrun, g1, ?_⟩
  have same : ∀ {v : Value} {u : World}, (Builtin.append_ #[t, t] ty #[.slice (some ⟨q, 0, none⟩) 0 0, .slice B m c]).run P w = .ok v u → w' = u := by
    intro v u hu
    rw [hrun] at hu
    injection hu
  rcases Nat.eq_zero_or_pos m with h0 | h0
  · subst h0
    have : (Builtin.append_ #[t, t] ty #[.slice (some ⟨q, 0, none⟩) 0 0, .slice B 0 c]).run P w = .ok (.slice (some ⟨q, 0, none⟩) 0 0) w := by
      cases B <;> simp [Builtin.append_, run_underlying h1, sizeOf, typeInfo, h2, Builtin.lenOf, Builtin.firstCells, storeCells, loadCells, loadCellsFrom]
    rw [same this]
    exact Below.refl _ _
  · obtain ⟨b, off, rfl, _, _, _⟩ := hr.at_ h0
    obtain ⟨hl, hs⟩ := hr.reads
    obtain ⟨ad, ea, _, hcell⟩ := hs h0
    obtain rfl := Option.some.inj ea
    have hfit : Builtin.nextslicecap (0 + m) 0 * i.bytes ≤ 281474976710656 := growslice_fits (by omega) (by
      have h9 : (0 + m) * i.bytes ≤ (0 + m) * 8 := Nat.mul_le_mul_left _ h5
      omega)
    have hr2 := run_append_grow (P := P) w t ty E i z h1 h2 h3 ⟨q, 0, none⟩ 0 0 [] (by simp) (fun j v h => by simp at h) ⟨b, off, none⟩ m c (ys.map (Value.int k)) (by rw [h4]; simpa using hl) hcell (by omega) (by omega) hfit
    rw [same hr2]
    exact ⟨rfl, rfl, rfl, by simp, fun k hk => heap_alloc_old w.drew _ hk⟩
/-- The append at an operation of a region. -/
theorem wp_app0 {P : Program} {o : Oper} {a : Act} {w : World} {K : Act → World → Prop} {Q : Exit → Act → World → Prop} (s x : Operand) (t : TypeId)
    (hop : o.op = .call { callee := .builtin .append, args := #[s, x], argTypes := #[t, t] })
    (E : TypeId) (i : TypeInfo) (z : Value) (k : IntKind) (h1 : P.underlying t = some (.slice E)) (h2 : P.info? E = some i) (h3 : i.zero = some z) (h4 : i.size = 1) (h5 : i.bytes ≤ 8) (h6 : z.cells.size = 1)
    {lo hi lo2 hi2 m c q : Nat} {B : Option Addr} {ys : List Int} (hs : a.eval s = .slice (some ⟨q, 0, none⟩) 0 0) (hx : a.eval x = .slice B m c) (ho : Ow E k w lo hi (some ⟨q, 0, none⟩) 0 0 []) (hr : Rd k w lo2 hi2 B m c ys) (hn : m ≤ 67108864) (hlo : lo ≤ w.heap.size)
    (hK : ∀ A' cap' w', Ow E k w' lo w'.heap.size A' m cap' ys → Below w.heap.size w w' → K (a.put o.dst (.slice A' m cap')) w') : Oper.wp P o a w K Q := by
  obtain ⟨A', cap', w', hrun, g1, g2⟩ := app_empty (P := P) t o.type E i z k h1 h2 h3 h4 h5 h6 ho hr hn hlo
  unfold Oper.wp execOp
  simp only [hop, resolve, invoke, builtin, Sem.run_bind, Sem.run_pure, Result.andThen_ok, List.map_toArray, List.map_cons, List.map_nil, hs, hx, hrun]
  exact hK A' cap' w' g1 g2
/-- A value with a row of the call's own in it, above block B. -/
def ownf (E : TypeId) (k : IntKind) (B : Nat) (zs : List Int) (f : Option Addr → Nat → Nat → Value) : reg.Stay reg.Bel :=
  ⟨fun v w => ∃ (A : Option Addr) (n c lo hi : Nat), v = f A n c ∧ B ≤ lo ∧ Ow E k w lo hi A n c zs, fun v w w' ⟨A, n, c, lo, hi, e, h1, h⟩ hb => ⟨A, n, c, lo, hi, e, h1, h.below hb⟩⟩
/-- An empty row of the call's own, without room. -/
def ownE (E : TypeId) (k : IntKind) (B : Nat) : reg.Stay reg.Bel :=
  ⟨fun v w => ∃ (q lo hi : Nat), v = .slice (some ⟨q, 0, none⟩) 0 0 ∧ B ≤ lo ∧ Ow E k w lo hi (some ⟨q, 0, none⟩) 0 0 [], fun v w w' ⟨q, lo, hi, e, h1, h⟩ hb => ⟨q, lo, hi, e, h1, h.below hb⟩⟩
end Go.Proofs.Ytjmenbpalihnnaa.stw
