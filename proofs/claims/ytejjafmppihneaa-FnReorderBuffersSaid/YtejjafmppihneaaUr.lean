/- Regions that draw their order in which one operation appends an element of the call's own onto a row, in the words of the harness. Condition: the region's form. -/
import Derived.Test.YtejjafmppihneaaUp
namespace Go.Proofs.Ytejjafmppihneaa.ux
open Go.RowKit sl harn bx
open mrw (blkOf)
set_option linter.unusedVariables false

theorem bx_ks {T : TypeId} {w w' : World} {b : Nat} {cs : Array Value} {F : List Nat} (h : Bx T w b cs) (hk : stw.KS F w w') (hn : b ∉ F) : Bx T w' b cs := h.same (hk.block b h.lt hn)
section
variable {α : Type} (S : Rep α) (T : TypeId) (hi : Nat) (fp : List Nat) (A : Option Addr) (n cap : Nat) (xs : List α)
/-- An append onto the row: the old slice stays, only its block may change. -/
def ApU (w w' : World) : Prop := OO (row T S) w 0 hi fp (.slice A n cap) xs ∧ w.grownBy w' (blkOf A) ∧ OO (row T S) w' 0 hi fp (.slice A n cap) xs
/-- What holds all the way: all but the row's blocks is as it was; the row stays. -/
def CU (W w' : World) : Prop := stw.KS fp W w' ∧ OO (row T S) w' 0 hi fp (.slice A n cap) xs
theorem cu_start {W : World} (h : OO (row T S) W 0 hi fp (.slice A n cap) xs) : CU S T hi fp A n cap xs W W.drew :=
  ⟨⟨rfl, rfl, rfl, Nat.le_refl _, fun _ _ _ => rfl⟩, h.same (Nat.le_refl _) fun _ _ _ => rfl⟩
theorem cu_keep (k : Nat) (W : World) : ∀ i w1 w2, CU S T hi fp A n cap xs W w1 → rgp.EA k reg.Bel (ApU S T hi fp A n cap xs) i w1 w2 → CU S T hi fp A n cap xs W w2 := fun i w1 w2 hc he =>
  rgp.ea_cases he (fun hb => ⟨hc.1.trans (ks_below hb fp), hc.2.below hb⟩) (fun h2 => ⟨hc.1.trans ⟨h2.2.1.os, h2.2.1.tape, h2.2.1.output, h2.2.1.size, fun k hk hn => h2.2.1.block k hk fun e => hn (row_blk h2.1 e.symm).2.2⟩, h2.2.2⟩)
/-- A value of the call's own above the row. -/
def elU {β : Type} (S2 : Rep β) (y : β) : rgp.St reg.Bel (ApU S T hi fp A n cap xs) :=
  ⟨fun v w => ∃ f lo2 hi2, hi ≤ lo2 ∧ OO S2 w lo2 hi2 f v y, fun v w w' ⟨f, lo2, hi2, h1, h⟩ hb => by
    rcases hb with hb | hb
    · exact ⟨f, lo2, hi2, h1, h.below hb⟩
    · exact ⟨f, lo2, hi2, h1, oo_grown h hb.2.1 fun b hm e => by have h3 := row_blk hb.1 e.symm; have := (h.2.1 b hm).1; omega⟩⟩
/-- A new slice of one such element. -/
def oneU (y : α) : rgp.St reg.Bel (ApU S T hi fp A n cap xs) :=
  ⟨fun v w => ∃ q c u f lo2 hi2, v = .slice (some ⟨q, 0, none⟩) 1 c ∧ hi ≤ q ∧ Bx T w q u.cells ∧ hi ≤ lo2 ∧ OO S w lo2 hi2 f u y, fun v w w' ⟨q, c, u, f, lo2, hi2, e, hq, hX, h1, h⟩ hb => by
    rcases hb with hb | hb
    · exact ⟨q, c, u, f, lo2, hi2, e, hq, hX.below hb, h1, h.below hb⟩
    · exact ⟨q, c, u, f, lo2, hi2, e, hq, mrw.grown_bx hX hb.2.1 (fun e => by have h3 := row_blk hb.1 e.symm; omega), h1, oo_grown h hb.2.1 fun b hm e => by have h3 := row_blk hb.1 e.symm; have := (h.2.1 b hm).1; omega⟩⟩
/-- The row behind the append. -/
def newU (y : α) (v : Value) (w : World) : Prop := ∃ A3 c3 fp3 hi3, v = .slice A3 (n + 1) c3 ∧ OO (row T S) w 0 hi3 fp3 (.slice A3 (n + 1) c3) (xs ++ [y]) ∧ ∀ b, b ∈ fp3 → b ∈ fp ∨ hi ≤ b
theorem newU_keep (y : α) : ∀ v w w', newU S T hi fp n xs y v w → reg.Bel w w' → newU S T hi fp n xs y v w' := fun v w w' ⟨A3, c3, f3, hi3, e, h, hf⟩ hb => ⟨A3, c3, f3, hi3, e, h.below hb, hf⟩
end
section
variable {P : Program} {α : Type} {S : Rep α} {T : TypeId}
theorem oo_one {w : World} {lo hi : Nat} {f : List Nat} {u : Value} {x : α} (h : OO S w lo hi f u x) : u.cells.all (·.oneCell') = true ∧ u.cells.size = S.n := ⟨S.one h.rd, S.len h.rd⟩
/-- The append itself. -/
theorem wp_push {o : Oper} {a : Act} {w : World} {K : Act → World → Prop} {Q : Exit → Act → World → Prop} (s x : Operand) (t : TypeId)
    (hop : o.op = .call { callee := .builtin .append, args := #[s, x], argTypes := #[t, t] })
    {i : TypeInfo} {z : Value} (h1 : P.underlying t = some (.slice T)) (h2 : P.info? T = some i) (h3 : i.zero = some z) (h4 : i.size = S.n) (h5 : i.bytes ≤ 128) (h6 : z.cells.size = S.n)
    {hi n cap q c : Nat} {A : Option Addr} {fp : List Nat} {xs : List α} (hs : a.eval s = .slice A n cap) (hx : a.eval x = .slice (some ⟨q, 0, none⟩) 1 c) (h : OO (row T S) w 0 hi fp (.slice A n cap) xs) {u : Value} {f : List Nat} (y : α) {lo2 hi2 : Nat} (hu : OO S w lo2 hi2 f u y) (hl : hi ≤ lo2)
    (hX : Bx T w q u.cells) (hn : n + 1 ≤ 1073741824)
    (hK : ∀ A' cap' w', newU S T hi fp n xs y (.slice A' (n + 1) cap') w' → ApU S T hi fp A n cap xs w w' → K (a.put o.dst (.slice A' (n + 1) cap')) w') : Oper.wp P o a w K Q := by
  obtain ⟨A', cap', w', fp', hrun, g1, g2, g4, g3⟩ := row_push (P := P) t o.type i z h1 h2 h3 h4 h5 h6 h hu (fun b hb hm => by have := (hu.2.1 b hb).1; have := (h.2.1 b hm).2; omega) (Nat.zero_le _) q c hX (oo_one hu).1 (oo_one hu).2 hn (Nat.zero_le _)
  unfold Oper.wp execOp
  simp only [hop, resolve, invoke, builtin, Sem.run_bind, Sem.run_pure, Result.andThen_ok, List.map_toArray, List.map_cons, List.map_nil, hs, hx, hrun]
  refine hK A' cap' w' ⟨A', cap', fp', w'.heap.size, rfl, g1, fun b hb => ?_⟩ ⟨h, g2, g4⟩
  rcases g3 b hb with h7 | h7 | h7
  · exact .inl h7
  · have := (hu.2.1 b h7).1; exact .inr (by omega)
  · have := h.2.2; exact .inr (by omega)
end
end Go.Proofs.Ytejjafmppihneaa.ux
