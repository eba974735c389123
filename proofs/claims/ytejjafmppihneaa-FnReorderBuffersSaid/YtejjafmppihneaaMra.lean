/- Appends onto rows of elements of several cells, told exactly: the old slice stays, only its own block may change. Condition: together at most 2^30 elements. -/
import Derived.Test.YtejjafmppihneaaMrs
namespace Go.Proofs.Ytejjafmppihneaa.mrw
open Go.RowKit sl harn bx
set_option linter.unusedVariables false

theorem grown_bx {T : TypeId} {w w' : World} {b : Nat} {cs : Array Value} {r : Option Nat} (h : Bx T w b cs) (hg : w.grownBy w' r) (hne : some b ≠ r) : Bx T w' b cs := h.same (hg.block b h.lt hne)
theorem grown_below {w w' : World} (h : Below w.heap.size w w') (r : Option Nat) : w.grownBy w' r := ⟨h.os, h.tape, h.output, h.size, fun k hk _ => h.block k hk⟩
theorem grown_trans {a b c : World} {r : Option Nat} (h : a.grownBy b r) (g : b.grownBy c r) : a.grownBy c r :=
  ⟨g.os.trans h.os, g.tape.trans h.tape, g.output.trans h.output, Nat.le_trans h.size g.size, fun k hk hd => (g.block k (Nat.lt_of_lt_of_le hk h.size) hd).trans (h.block k hk hd)⟩
theorem below_grown {lo : Nat} {w0 w w' : World} {r : Option Nat} (h : Below lo w0 w) (hg : w.grownBy w' r) (hr : ∀ q, r = some q → lo ≤ q) (hl : lo ≤ w.heap.size) : Below lo w0 w' :=
  h.grown hg hl hr
abbrev blkOf (A : Option Addr) : Option Nat := A.map (·.block)
section
variable {α : Type} {S : Sh α} {w w' : World} {lo hi n cap : Nat} {A : Option Addr} {xs : List α} {es : List (El α)}
theorem Oe.lo_ (h : Oe S w lo hi A n cap es) {q : Nat} (hq : blkOf A = some q) : lo ≤ q ∧ q < hi := by
  rcases h.form with ⟨e0, _⟩ | ⟨g, cur, e0, h1, h2, _⟩
  · rw [e0] at hq; cases hq
  · rw [e0] at hq
    obtain rfl : g = q := by simpa using hq
    exact ⟨h1, h2⟩
/-- A slice of bytes of the call's own beside a row that changes. -/
theorem ow_grown (h : Oe S w lo hi A n cap es) (hg : w.grownBy w' (blkOf A)) {lo2 hi2 m c : Nat} {B : Option Addr} {zs : List Int} (ho : Ow 5 .u8 w lo2 hi2 B m c zs) : Ow 5 .u8 w' lo2 hi2 B m c zs := by
  obtain ⟨⟨q1, q2⟩, q3, q4, q5⟩ := ho
  refine ⟨⟨q1, ?_⟩, q3, by have := hg.size; omega, q5⟩
  rcases q2 with q2 | ⟨g', c', cur', e, r1, r2, r3⟩
  · exact Or.inl q2
  · refine Or.inr ⟨g', c', cur', e, r1, ?_, r3⟩
    rw [hg.block g' (lt_of_block r2) ?_]
    · exact r2
    · intro heq
      rcases h.form with ⟨e0, _⟩ | ⟨gr, curr, e0, _, _, s3, _⟩
      · rw [e0] at heq; cases heq
      · rw [e0] at heq
        obtain rfl : g' = gr := by simpa using heq
        rw [r2] at s3
        simp only [Option.some.injEq, Obj.cells.injEq] at s3
        exact S.ne s3.2.1.symm
/-- Elements appended: the new slice; the old one stays; only its block may change. -/
theorem Oe.more {P : Program} (t ty : TypeId) (i : TypeInfo) (z : Value) (h1 : P.underlying t = some (.slice S.T)) (h2 : P.info? S.T = some i) (h3 : i.zero = some z) (h4 : i.size = S.s) (h5 : i.bytes ≤ 128) (h6 : z.cells.size = S.s)
    (h : Oe S w lo hi A n cap es) (ad : Addr) (m c : Nat) (fs : List (El α)) (hm : fs.length = m) (hsrc : ∀ j u, (flat S fs)[j]? = some u → w.cell? (ad.add j) = some u)
    (hb : ∀ f ∈ fs, ∃ lo2 hi2, lo ≤ lo2 ∧ Ow 5 .u8 w lo2 hi2 f.A f.n f.c (S.B f.x)) (hd : Ds (es ++ fs)) (hn : n + m ≤ 1073741824) (hlo : lo ≤ w.heap.size) :
    ∃ A' cap' w', (Builtin.append_ #[t, t] ty #[.slice A n cap, .slice (some ad) m c]).run P w = .ok (.slice A' (n + m) cap') w' ∧ Oe S w' lo w'.heap.size A' (n + m) cap' (es ++ fs) ∧ w.grownBy w' (blkOf A) ∧ Oe S w' lo hi A n cap es ∧ (blkOf A' = blkOf A ∨ ∀ q, blkOf A' = some q → w.heap.size ≤ q) := by
  have hb8 : (n + m) * i.bytes ≤ 140737488355328 := by
    have := Nat.mul_le_mul hn h5
    omega
  have fin : ∀ (A' : Option Addr) (cap' : Nat) (w' : World), w'.ownsRow lo S.T S.s (.slice A' (n + m) cap') (n + m) (flat S (es ++ fs)) → w.grownBy w' (blkOf A) → Oe S w' lo w'.heap.size A' (n + m) cap' (es ++ fs) := by
    intro A' cap' w' hrow hg
    refine ⟨hrow, fun e he => ?_, hd, Nat.le_refl _, fun g o e => ?_⟩
    · rcases List.mem_append.1 he with he | he
      · exact (ow_grown h hg (h.body e he)).up
      · obtain ⟨lo2, hi2, hl, ho⟩ := hb e he
        exact ((ow_grown h hg ho).up).down hl
    · rcases hrow.2 with ⟨e0, _⟩ | ⟨g', c', cur', e0, _, k2, _⟩
      · injection e0 with e0; rw [e0] at e; cases e
      · injection e0 with e0
        rw [e0] at e; injection e with e; injection e with e _; subst e
        exact lt_of_block k2
  have hlen : (flat S es ++ flat S fs).length = (n + m) * S.s := by rw [List.length_append, h.row.1, flat_len, hm, Nat.add_mul]
  have grown : ∀ (old : Nat), old < n + m →
      (w.drew.alloc (.cells ((flat S es).toArray ++ (flat S fs).toArray ++ Builtin.zeroCells z.cells (grownCap w (n + m) old S.T - (n + m))) S.T)).ownsRow lo S.T S.s
        (.slice (some ⟨w.heap.size, 0, none⟩) (n + m) (grownCap w (n + m) old S.T)) (n + m) (flat S (es ++ fs)) ∧
      Below w.heap.size w (w.drew.alloc (.cells ((flat S es).toArray ++ (flat S fs).toArray ++ Builtin.zeroCells z.cells (grownCap w (n + m) old S.T - (n + m))) S.T)) := by
    intro old ho
    have hge := grownCap_ge w (n + m) old S.T
    have hcm : grownCap w (n + m) old S.T ≤ maxLen := grownCap_le_maxLen w (n + m) old S.T (by unfold maxLen; omega)
    refine ⟨⟨by rw [flat_append]; exact hlen, .inr ⟨w.heap.size, _, _, rfl, hlo, heap_alloc_new w.drew _, hge, hcm, ?_, ?_⟩⟩, ⟨rfl, rfl, rfl, by simp, fun k hk => heap_alloc_old w.drew _ hk⟩⟩
    · simp only [Array.size_append, List.size_toArray, size_zeroCells, h6, h.row.1, flat_len, hm, ← Nat.add_mul]
      congr 1
      omega
    · simp only [Array.toList_append, List.append_assoc]
      rw [← List.append_assoc, ← hlen, flat_append]
      exact List.take_left
  rcases h.form with ⟨rfl, rfl, rfl⟩ | ⟨g, cur, rfl, hg1, hg2, hcur, hnc, hcm, hcs, htake⟩
  · have he : es = [] := List.eq_nil_of_length_eq_zero h.len
    subst he
    by_cases hm0 : m = 0
    · subst hm0
      have hf : fs = [] := List.eq_nil_of_length_eq_zero hm
      subst hf
      refine ⟨none, 0, w, ?_, (Oe.nil_ S w lo _ (Nat.le_refl _)), ⟨rfl, rfl, rfl, Nat.le_refl _, fun _ _ _ => rfl⟩, h, Or.inl rfl⟩
      simp [Builtin.append_, run_underlying h1, sizeOf, typeInfo, h2, Builtin.lenOf, Builtin.firstCells, loadCells, loadCellsFrom]
    · have hr := run_append_nil (P := P) w t ty S.T i z h1 h2 h3 ad m c (flat S fs) (by rw [flat_len, hm, h4]) hsrc (by omega) (by omega) (by have hb := hb8; simp only [Nat.zero_add] at hb; omega)
      have hgr := grown 0 (by omega)
      have hf : flat S ([] : List (El α)) = [] := rfl
      simp only [Nat.zero_add, List.nil_append, hf, Array.empty_append] at hgr ⊢
      refine ⟨_, _, _, hr, ?_, grown_below hgr.2 _, h.below hgr.2, Or.inr fun q hq => ?_⟩
      · have := fin (some ⟨w.heap.size, 0, none⟩) _ _ (by simpa using hgr.1) (grown_below hgr.2 _)
        simpa using this
      · have : w.heap.size = q := by simpa using hq
        omega
  · by_cases hroom : n + m ≤ cap
    · obtain ⟨w', hr, g1, g2⟩ := run_append_fits (P := P) w lo t ty S.T i S.s h1 h2 h4 g n cap (flat S es) h.row ad m c (flat S fs) (by rw [flat_len, hm]) hsrc (flat_one S fs) hroom
      rw [← flat_append] at g1
      refine ⟨_, _, w', hr, fin _ _ _ g1 g2, g2, ⟨?_, fun e he => (ow_grown h g2 (h.body e he)), h.ds, by have := h.hi_; have := g2.size; omega, h.lt⟩, Or.inl rfl⟩
      obtain ⟨cur', k1, k2, k3, k4, k5, k6⟩ := row_at g1
      refine ⟨h.row.1, .inr ⟨g, cap, cur', rfl, k2, k1, hnc, hcm, k5, ?_⟩⟩
      have := congrArg (List.take (n * S.s)) k6
      rw [List.take_take, Nat.min_eq_left (Nat.mul_le_mul_right _ (by omega)), flat_append, List.take_append_of_le_length (by rw [h.row.1]; exact Nat.le_refl _)] at this
      exact this.trans (List.take_of_length_le (by rw [h.row.1]; exact Nat.le_refl _))
    · have holds : ∀ j u, (flat S es)[j]? = some u → w.cell? ((⟨g, 0, none⟩ : Addr).add j) = some u := h.row.cells (g := g) rfl
      have hr := run_append_grow (P := P) w t ty S.T i z h1 h2 h3 ⟨g, 0, none⟩ n cap (flat S es) (by rw [h4]; exact h.row.1) holds ad m c (flat S fs) (by rw [flat_len, hm, h4]) hsrc (by omega) (by omega) (growslice_fits (by omega) hb8)
      have hgr := grown cap (by omega)
      refine ⟨_, _, _, hr, fin _ _ _ hgr.1 (grown_below hgr.2 _), grown_below hgr.2 _, h.below hgr.2, Or.inr fun q hq => ?_⟩
      have : w.heap.size = q := by simpa using hq
      omega
/-- The walk's form. -/
theorem list_more {P : Program} (w : World) {ops : Array Oper} {rest : List Oper} {o : Oper} {a : Act} {Q : Exit → Act → World → Prop} (hgd : o.guard = none) (s x : Operand) (t : TypeId)
    (hop : o.op = .call { callee := .builtin .append, args := #[s, x], argTypes := #[t, t] })
    {i : TypeInfo} {z : Value} (h1 : P.underlying t = some (.slice S.T)) (h2 : P.info? S.T = some i) (h3 : i.zero = some z) (h4 : i.size = S.s) (h5 : i.bytes ≤ 128) (h6 : z.cells.size = S.s)
    {lo hi n cap m c : Nat} {A : Option Addr} {ad : Addr} {es fs : List (El α)} (hs : a.eval s = .slice A n cap) (hx : a.eval x = .slice (some ad) m c) (h : Oe S w lo hi A n cap es) (hm : fs.length = m)
    (hsrc : ∀ j u, (flat S fs)[j]? = some u → w.cell? (ad.add j) = some u) (hb : ∀ f ∈ fs, ∃ lo2 hi2, lo ≤ lo2 ∧ Ow 5 .u8 w lo2 hi2 f.A f.n f.c (S.B f.x)) (hd : Ds (es ++ fs)) (hn : n + m ≤ 1073741824) (hlo : lo ≤ w.heap.size)
    (hK : ∀ A' cap' w', Oe S w' lo w'.heap.size A' (n + m) cap' (es ++ fs) → w.grownBy w' (blkOf A) → wpList P ops Q rest (a.put o.dst (.slice A' (n + m) cap')) w') : wpList P ops Q (o :: rest) a w := by
  refine wpList_plain hgd fun K hK' => ?_
  obtain ⟨A', cap', w', hrun, g1, g2, _, _⟩ := h.more (P := P) t o.type i z h1 h2 h3 h4 h5 h6 ad m c fs hm hsrc hb hd hn hlo
  unfold Oper.wp execOp
  simp only [hop, resolve, invoke, builtin, Sem.run_bind, Sem.run_pure, Result.andThen_ok, List.map_toArray, List.map_cons, List.map_nil, hs, hx, hrun]
  exact hK' _ _ (hK A' cap' w' g1 g2)
theorem step_more {P : Program} {ops : Array Oper} {o : Oper} {a : Act} {w : World} {K : Act → World → Prop} {Q : Exit → Act → World → Prop} {X : Prop} (hgd : o.guard = none) (s x : Operand) (t : TypeId)
    (hop : o.op = .call { callee := .builtin .append, args := #[s, x], argTypes := #[t, t] })
    {i : TypeInfo} {z : Value} (h1 : P.underlying t = some (.slice S.T)) (h2 : P.info? S.T = some i) (h3 : i.zero = some z) (h4 : i.size = S.s) (h5 : i.bytes ≤ 128) (h6 : z.cells.size = S.s)
    {lo hi n cap m c : Nat} {A : Option Addr} {ad : Addr} {es fs : List (El α)} (hs : a.eval s = .slice A n cap) (hx : a.eval x = .slice (some ad) m c) (h : Oe S w lo hi A n cap es) (hm : fs.length = m)
    (hsrc : ∀ j u, (flat S fs)[j]? = some u → w.cell? (ad.add j) = some u) (hb : ∀ f ∈ fs, ∃ lo2 hi2, lo ≤ lo2 ∧ Ow 5 .u8 w lo2 hi2 f.A f.n f.c (S.B f.x)) (hd : Ds (es ++ fs)) (hn : n + m ≤ 1073741824) (hlo : lo ≤ w.heap.size)
    (hK : ∀ A' cap' w', Oe S w' lo w'.heap.size A' (n + m) cap' (es ++ fs) → w.grownBy w' (blkOf A) → K (a.put o.dst (.slice A' (n + m) cap')) w') :
    if Region.wanted o (yielded ops a.tmps) = true then Oper.wp P o a w K Q else X := by
  have hw : Region.wanted o (yielded ops a.tmps) = true := by simp [Region.wanted, hgd]
  rw [if_pos hw]
  obtain ⟨A', cap', w', hrun, g1, g2, _, _⟩ := h.more (P := P) t o.type i z h1 h2 h3 h4 h5 h6 ad m c fs hm hsrc hb hd hn hlo
  unfold Oper.wp execOp
  simp only [hop, resolve, invoke, builtin, Sem.run_bind, Sem.run_pure, Result.andThen_ok, List.map_toArray, List.map_cons, List.map_nil, hs, hx, hrun]
  exact hK A' cap' w' g1 g2
/-- A new block that holds one element. -/
theorem one_src (f : El α) (w : World) : ∀ j u, (flat S [f])[j]? = some u → (w.alloc (.cells (cells S f).toArray S.T)).cell? ((⟨w.heap.size, 0, none⟩ : Addr).add j) = some u := by
  intro j u hu
  have e : flat S [f] = cells S f := by simp [flat]
  rw [e] at hu
  have e2 : (⟨w.heap.size, 0, none⟩ : Addr).add j = ⟨w.heap.size, j, none⟩ := by unfold Addr.add; split <;> simp_all
  rw [e2, cell_of_row _ _ _ _ _ _ (heap_alloc_new w _)]
  simpa using hu
/-- One element appended out of a block made for it: what stands in whatever order. -/
theorem Oe.push {P : Program} (t ty : TypeId) (i : TypeInfo) (z : Value) (h1 : P.underlying t = some (.slice S.T)) (h2 : P.info? S.T = some i) (h3 : i.zero = some z) (h4 : i.size = S.s) (h5 : i.bytes ≤ 128) (h6 : z.cells.size = S.s)
    (h : Oe S w lo hi A n cap es) (f : El α) {lo2 hi2 : Nat} (hf : Ow 5 .u8 w lo2 hi2 f.A f.n f.c (S.B f.x)) (hl : hi ≤ lo2) (hll : lo ≤ lo2) (hn : n + 1 ≤ 1073741824) (hlo : lo ≤ w.heap.size) :
    ∃ A' cap' w', (Builtin.append_ #[t, t] ty #[.slice A n cap, .slice (some ⟨w.heap.size, 0, none⟩) 1 1]).run P (w.alloc (.cells (cells S f).toArray S.T)) = .ok (.slice A' (n + 1) cap') w' ∧ Oe S w' lo w'.heap.size A' (n + 1) cap' (es ++ [f]) ∧ w.grownBy w' (blkOf A) := by
  have hb := below_box w (.cells (cells S f).toArray S.T)
  obtain ⟨A', cap', w', hrun, g1, g2, _, _⟩ := (h.below hb).more (P := P) t ty i z h1 h2 h3 h4 h5 h6 ⟨w.heap.size, 0, none⟩ 1 1 [f] rfl (one_src f w) (fun f' hf' => by
    obtain rfl : f' = f := by simpa using hf'
    exact ⟨lo2, hi2, hll, hf.below hb⟩) (h.ds.push h.body hf hl) hn (by simp; omega)
  exact ⟨A', cap', w', hrun, g1, grown_trans (grown_below hb _) g2⟩
theorem list_push {P : Program} (w : World) {ops : Array Oper} {rest : List Oper} {o : Oper} {a : Act} {Q : Exit → Act → World → Prop} (hgd : o.guard = none) (s x : Operand) (t : TypeId)
    (hop : o.op = .call { callee := .builtin .append, args := #[s, x], argTypes := #[t, t] })
    {i : TypeInfo} {z : Value} (h1 : P.underlying t = some (.slice S.T)) (h2 : P.info? S.T = some i) (h3 : i.zero = some z) (h4 : i.size = S.s) (h5 : i.bytes ≤ 128) (h6 : z.cells.size = S.s)
    {lo hi n cap : Nat} {A : Option Addr} {es : List (El α)} (hs : a.eval s = .slice A n cap) (hx : a.eval x = .slice (some ⟨w.heap.size, 0, none⟩) 1 1) (h : Oe S w lo hi A n cap es) (f : El α)
    {lo2 hi2 : Nat} (hf : Ow 5 .u8 w lo2 hi2 f.A f.n f.c (S.B f.x)) (hl : hi ≤ lo2) (hll : lo ≤ lo2) (hn : n + 1 ≤ 1073741824) (hlo : lo ≤ w.heap.size)
    (hK : ∀ A' cap' w', Oe S w' lo w'.heap.size A' (n + 1) cap' (es ++ [f]) → w.grownBy w' (blkOf A) → wpList P ops Q rest (a.put o.dst (.slice A' (n + 1) cap')) w') : wpList P ops Q (o :: rest) a (w.alloc (.cells (cells S f).toArray S.T)) := by
  refine wpList_plain hgd fun K hK' => ?_
  obtain ⟨A', cap', w', hrun, g1, g2⟩ := h.push (P := P) t o.type i z h1 h2 h3 h4 h5 h6 f hf hl hll hn hlo
  unfold Oper.wp execOp
  simp only [hop, resolve, invoke, builtin, Sem.run_bind, Sem.run_pure, Result.andThen_ok, List.map_toArray, List.map_cons, List.map_nil, hs, hx, hrun]
  exact hK' _ _ (hK A' cap' w' g1 g2)
theorem rq_grown {β : Type} {S2 : Sh β} {ys : List β} {lo2 hi2 m c : Nat} {B : Option Addr} (h : Rq S2 w lo2 hi2 B m c ys) (o : Oe S w lo hi A n cap es) (hg : w.grownBy w' (blkOf A)) (hd : hi2 ≤ lo) : Rq S2 w' lo2 hi2 B m c ys :=
  h.same hg.size fun b _ hlt => hg.block b (by have := h.hi_; omega) (fun e => by have := (o.lo_ e.symm).1; omega)
theorem rd_grown {k : IntKind} {zs : List Int} {lo2 hi2 m c : Nat} {B : Option Addr} (o : Oe S w lo hi A n cap es) (hg : w.grownBy w' (blkOf A)) (h : Rd k w lo2 hi2 B m c zs) (hd : hi2 ≤ lo) : Rd k w' lo2 hi2 B m c zs :=
  h.same hg.size fun b _ hlt => hg.block b (by have := h.hi_; omega) (fun e => by have := (o.lo_ e.symm).1; omega)
theorem oe_grown {β : Type} {S2 : Sh β} {fs : List (El β)} {lo2 hi2 m c : Nat} {B : Option Addr} (h : Oe S2 w lo2 hi2 B m c fs) (o : Oe S w lo hi A n cap es) (hg : w.grownBy w' (blkOf A)) (hd : hi2 ≤ lo ∨ hi ≤ lo2) : Oe S2 w' lo2 hi2 B m c fs :=
  h.same hg.size fun b h1 hlt => hg.block b (by have := h.hi_; omega) (fun e => by have := o.lo_ e.symm; omega)
end
end Go.Proofs.Ytejjafmppihneaa.mrw
