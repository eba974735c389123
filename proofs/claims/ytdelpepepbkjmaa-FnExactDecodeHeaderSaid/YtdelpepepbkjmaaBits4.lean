/- Bit strings, program and specification: XorBits. Condition: lengths up to 2^26. -/
import Derived.Test.YtdelpepepbkjmaaBits3
namespace Go.Proofs.Ytdelpepepbkjmaa.bits
open Go.RowKit sl harn bm rng

theorem xor_wf (a b : List Int) : Wf .i64 (xorB a b) := Wf.of_i64 fun z hz => by
  obtain ⟨i, hi, rfl⟩ := List.getElem_of_mem hz
  have : (xorB a b)[i] = bits .and .i64 (bits .xor .i64 (a[i]'(by rw [xorB_len] at hi; omega)) (b[i]'(by rw [xorB_len] at hi; omega))) 1 := by simp [xorB]
  rw [this, low1]; omega
theorem xor_at {zs ys : List Int} {k : Nat} {x y v : Int} (h1 : k < zs.length) (h2 : k < ys.length) (hx : zs.getD k 0 = x) (hy : ys.getD k 0 = y) (hv : bits .and .i64 (bits .xor .i64 x y) 1 = v) : (xorB zs ys).getD k 0 = v := by
  rw [xorB_at zs ys h1 h2, hx, hy, hv]
theorem part_below {kd : IntKind} {E : TypeId} {w w1 wr : World} {n k : Nat} {zs : List Int} (h : Part kd E w1 wr n k zs) (hs : w.heap.size ≤ w1.heap.size) : Below w.heap.size w1 wr := by
  obtain ⟨_, _, _, _, h4⟩ := h
  exact h4.mono hs
theorem part_drew {kd : IntKind} {E : TypeId} {w wr : World} {n k : Nat} {zs : List Int} (h : Part kd E w wr n k zs) : Part kd E w wr.drew n k zs := by
  obtain ⟨cs, h1, h2, h3, h4⟩ := h
  exact ⟨cs, h1, h2, h3, h4.trans ⟨rfl, rfl, rfl, Nat.le_refl _, fun _ _ => rfl⟩⟩
theorem slPost_below {E : TypeId} {k : IntKind} {w w1 w2 : World} {zs : List Int} {e : Ending} (hb : Below w.heap.size w w1) (h : SlPost E k w1 zs e w2) : SlPost E k w zs e w2 := by
  obtain ⟨A, n, c, e, ho, hb2⟩ := h
  exact ⟨A, n, c, e, ho.down hb.size, hb.trans (hb2.mono hb.size)⟩
/-- An append onto a slice of the call's own, at a step of a region that draws its order. -/
theorem step_app {P : Program} {ops : Array Oper} {o : Oper} {a : Act} {w : World} {K : Act → World → Prop} {Q : Exit → Act → World → Prop} {X : Prop} (hg : o.guard = none) (s x : Operand) (t : TypeId)
    (hop : o.op = .call { callee := .builtin .append, args := #[s, x], argTypes := #[t, t] })
    (E : TypeId) (i : TypeInfo) (z : Value) (k : IntKind) (h1 : P.underlying t = some (.slice E)) (h2 : P.info? E = some i) (h3 : i.zero = some z) (h4 : i.size = 1) (h5 : i.bytes ≤ 8) (h6 : z.cells.size = 1)
    {lo hi lo2 hi2 n cap m c : Nat} {A B : Option Addr} {zs ys : List Int} (hs : a.eval s = .slice A n cap) (hx : a.eval x = .slice B m c) (ho : Ow E k w lo hi A n cap zs) (hr : Rd k w lo2 hi2 B m c ys) (hn : n + m ≤ 1073741824) (hlo : lo ≤ w.heap.size)
    (hK : ∀ A' cap' w', Ow E k w' lo w'.heap.size A' (n + m) cap' (zs ++ ys) → Below lo w w' → K (a.put o.dst (.slice A' (n + m) cap')) w') :
    if Region.wanted o (yielded ops a.tmps) = true then Oper.wp P o a w K Q else X := by
  have hw : Region.wanted o (yielded ops a.tmps) = true := by simp [Region.wanted, hg]
  rw [if_pos hw]
  obtain ⟨A', cap', w', hrun, g1, g2⟩ := app (P := P) t o.type E i z k h1 h2 h3 h4 h5 h6 ho hr hn hlo
  unfold Oper.wp execOp
  simp only [hop, resolve, invoke, builtin, Sem.run_bind, Sem.run_pure, Result.andThen_ok, List.map_toArray, List.map_cons, List.map_nil, hs, hx, hrun]
  exact hK A' cap' w' g1 g2
theorem cell_same {k : IntKind} {w w' : World} {lo hi n cap : Nat} {b off : Nat} {zs : List Int} (h : Rd k w lo hi (some ⟨b, off, none⟩) n cap zs) (h2 : Rd k w' lo hi (some ⟨b, off, none⟩) n cap zs) {i : Nat} (hi' : i < n) : w'.cell? ⟨b, off + i, none⟩ = w.cell? ⟨b, off + i, none⟩ := by
  obtain ⟨b1, o1, e1, _, _, g1⟩ := h.at_ hi'
  obtain ⟨b2, o2, e2, _, _, g2⟩ := h2.at_ hi'
  injection e1 with e1; injection e1 with e1 e1'; subst e1 e1'
  injection e2 with e2; injection e2 with e2 e2'; subst e2 e2'
  rw [g1, g2]
theorem rd_drew {k : IntKind} {w : World} {lo hi n cap : Nat} {A : Option Addr} {zs : List Int} (h : Rd k w lo hi A n cap zs) : Rd k w.drew lo hi A n cap zs := h.same (Nat.le_refl _) fun _ _ _ => rfl
theorem ow_drew {E : TypeId} {k : IntKind} {w : World} {lo hi n cap : Nat} {A : Option Addr} {zs : List Int} (h : Ow E k w lo hi A n cap zs) : Ow E k w.drew lo hi A n cap zs := h.same (Nat.le_refl _) fun _ _ _ => rfl
theorem below_drew {B : Nat} {a w : World} (h : Below B a w) : Below B a w.drew := h.trans ⟨rfl, rfl, rfl, Nat.le_refl _, fun _ _ => rfl⟩
end Go.Proofs.Ytdelpepepbkjmaa.bits
