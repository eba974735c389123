/- An append onto a slice of numbers of the call's own, told exactly; windows compared with the empty one. Condition: none. -/
import Derived.Test.YtejjafmppihneaaRo4
import Derived.Test.YtejjafmppihneaaRo6
import Derived.ChangeKeysEq
import Derived.Laws.StructEq
namespace Go.Proofs.Ytejjafmppihneaa.ro
open Go.RowKit sl harn bx stw mrw
open ux (Nf Rob RR OO row rowB rowNf nf rob)
open bs (nsq sqd)
set_option linter.unusedVariables false
set_option linter.unusedSimpArgs false
section
variable {E : TypeId} {k : IntKind} {w w' : World} {lo hi n cap : Nat} {A : Option Addr} {zs : List Int}
theorem own_blk (A : Option Addr) (n c : Nat) : (Value.slice A n c).ownBlock = blkOf A := by cases A <;> rfl
/-- An append onto a slice of numbers of the call's own: the old one stays; only its block may change. -/
theorem num_more {P : Program} (t ty E : TypeId) (i : TypeInfo) (z : Value) (k : IntKind) (h1 : P.underlying t = some (.slice E)) (h2 : P.info? E = some i) (h3 : i.zero = some z) (h4 : i.size = 1) (h5 : i.bytes ≤ 8) (h6 : z.cells.size = 1)
    {w : World} {lo hi lo2 hi2 n cap m c : Nat} {A B : Option Addr} {zs ys : List Int} (ho : Ow E k w lo hi A n cap zs) (hr : Rd k w lo2 hi2 B m c ys) (hn : n + m ≤ 1073741824) (hlo : lo ≤ w.heap.size) :
    ∃ A' cap' w', (Builtin.append_ #[t, t] ty #[.slice A n cap, .slice B m c]).run P w = .ok (.slice A' (n + m) cap') w' ∧ Ow E k w' lo w'.heap.size A' (n + m) cap' (zs ++ ys) ∧ w.grownBy w' (blkOf A) ∧ Ow E k w' lo hi A n cap zs ∧ (blkOf A' = blkOf A ∨ ∀ q, blkOf A' = some q → w.heap.size ≤ q) := by
  have hwf : Wf k (zs ++ ys) := ho.wf.append hr.wf
  cases B with
  | none =>
    have hm : m = 0 := by
      rcases Nat.eq_zero_or_pos m with h | h
      · exact h
      · obtain ⟨b, off, e, _⟩ := hr.at_ h; cases e
    subst hm
    have hy : ys = [] := List.eq_nil_of_length_eq_zero hr.len
    subst hy
    refine ⟨A, cap, w, ?_, by simpa using ho.up, grown_below (Below.refl _ _) _, ho, .inl rfl⟩
    rcases ho.form with ⟨rfl, rfl, rfl⟩ | ⟨g, cur, rfl, _, _, _, hnc, _⟩
    · simp [Builtin.append_, run_underlying h1, sizeOf, typeInfo, h2, Builtin.lenOf, Builtin.firstCells]
    · simp [Builtin.append_, run_underlying h1, sizeOf, typeInfo, h2, Builtin.lenOf, Builtin.firstCells, hnc, storeCells]
  | some ad =>
    have hcells : ∀ j u, (ys.map (Value.int k))[j]? = some u → w.cell? (ad.add j) = some u := by
      intro j u hu
      have hj : j < ys.length := by
        have := (List.getElem?_eq_some_iff.1 hu).1
        simpa using this
      have hl := hr.len
      obtain ⟨b, off, e, _, _, hc⟩ := hr.at_ (i := j) (by omega)
      injection e with e
      subst e
      have e2 : (⟨b, off, none⟩ : Addr).add j = ⟨b, off + j, none⟩ := by unfold Addr.add; split <;> simp_all
      rw [e2, hc]
      rw [List.getElem?_map, List.getElem?_eq_getElem hj] at hu
      rw [List.getD_eq_getElem?_getD, List.getElem?_eq_getElem hj]
      simpa using hu
    have hb8 : (n + m) * i.bytes ≤ 140737488355328 := by
      have := Nat.mul_le_mul hn h5
      omega
    obtain ⟨v', w', hrun, g1, g2, _, g3⟩ := run_append_own_at (P := P) w lo t ty E i z 1 i.bytes h1 h2 h3 h4 rfl h6 (by omega) _ n _ ho.1 ad m c (ys.map (Value.int k)) (by simpa using hr.len) hcells (one_cells k ys) (by unfold maxLen; omega) hb8 hlo
    rw [← List.map_append] at g1
    obtain ⟨A', cap', rfl, hO⟩ := Ow.of_own g1 hwf
    rw [own_blk] at g2
    have same : ∀ {v : Value} {u : World}, (Builtin.append_ #[t, t] ty #[.slice A n cap, .slice (some ad) m c]).run P w = .ok v u → w' = u := by
      intro v u hu
      rw [hrun] at hu
      injection hu
    have hblk : blkOf A' = blkOf A ∨ ∀ q, blkOf A' = some q → w.heap.size ≤ q := by
      rw [own_blk, own_blk] at g3
      rcases g3 with g3 | g3
      · exact .inl g3
      · exact .inr fun q hq => by rw [g3] at hq; injection hq with hq; omega
    refine ⟨A', cap', w', hrun, hO, g2, ?_, hblk⟩
    rcases ho.form with ⟨rfl, rfl, rfl⟩ | ⟨g, cur, rfl, hg1, hg2, hcur, hnc, hcm, hcs, htake⟩
    · have hz : zs = [] := List.eq_nil_of_length_eq_zero ho.len
      subst hz
      exact Ow.nil_ _ _ _ _ _ (by have := ho.hi_; have := g2.size; omega)
    · by_cases hroom : n + m ≤ cap
      · obtain ⟨w2, hr2, q1, q2⟩ := run_append_fits (P := P) w lo t ty E i 1 h1 h2 h4 g n cap (zs.map (Value.int k)) ho.1 ad m c (ys.map (Value.int k)) (by simpa using hr.len) hcells (one_cells k ys) hroom
        obtain rfl := same hr2
        obtain ⟨cur', k1, k2, k3, k4, k5, k6⟩ := mrw.row_at q1
        refine ⟨⟨ho.1.1, .inr ⟨g, cap, cur', rfl, k2, k1, hnc, hcm, k5, ?_⟩⟩, ho.wf, by have := ho.hi_; have := g2.size; omega, ho.2.2.2⟩
        have := congrArg (List.take (n * 1)) k6
        rw [List.take_take, Nat.min_eq_left (Nat.mul_le_mul_right _ (by omega)), List.take_append_of_le_length (by rw [ho.1.1]; exact Nat.le_refl _)] at this
        exact this.trans (List.take_of_length_le (by rw [ho.1.1]; exact Nat.le_refl _))
      · have holds : ∀ j u, (zs.map (Value.int k))[j]? = some u → w.cell? ((⟨g, 0, none⟩ : Addr).add j) = some u := ho.1.cells (g := g) rfl
        have hr2 := run_append_grow (P := P) w t ty E i z h1 h2 h3 ⟨g, 0, none⟩ n cap (zs.map (Value.int k)) (by rw [h4]; exact ho.1.1) holds ad m c (ys.map (Value.int k)) (by rw [h4]; simpa using hr.len) hcells (by omega) (by omega) (growslice_fits (by omega) hb8)
        rw [same hr2]
        exact ho.below ⟨rfl, rfl, rfl, by simp, fun k hk => heap_alloc_old w.drew _ hk⟩
/-- The walk's form. -/
theorem wpList_num {P : Program} (w : World) {ops : Array Oper} {rest : List Oper} {o : Oper} {a : Act} {Q : Exit → Act → World → Prop} (hg : o.guard = none) (s x : Operand) (t : TypeId)
    (hop : o.op = .call { callee := .builtin .append, args := #[s, x], argTypes := #[t, t] })
    (E : TypeId) (i : TypeInfo) (z : Value) (k : IntKind) (h1 : P.underlying t = some (.slice E)) (h2 : P.info? E = some i) (h3 : i.zero = some z) (h4 : i.size = 1) (h5 : i.bytes ≤ 8) (h6 : z.cells.size = 1)
    {lo hi lo2 hi2 n cap m c : Nat} {A B : Option Addr} {zs ys : List Int} (hs : a.eval s = .slice A n cap) (hx : a.eval x = .slice B m c) (ho : Ow E k w lo hi A n cap zs) (hr : Rd k w lo2 hi2 B m c ys) (hn : n + m ≤ 1073741824) (hlo : lo ≤ w.heap.size)
    (hK : ∀ A' cap' w', Ow E k w' lo w'.heap.size A' (n + m) cap' (zs ++ ys) → w.grownBy w' (blkOf A) → Ow E k w' lo hi A n cap zs → (blkOf A' = blkOf A ∨ ∀ q, blkOf A' = some q → w.heap.size ≤ q) → wpList P ops Q rest (a.put o.dst (.slice A' (n + m) cap')) w') : wpList P ops Q (o :: rest) a w := by
  refine wpList_plain hg fun K hK' => ?_
  obtain ⟨A', cap', w', hrun, g1, g2, g3, g4⟩ := num_more (P := P) t o.type E i z k h1 h2 h3 h4 h5 h6 ho hr hn hlo
  unfold Oper.wp execOp
  simp only [hop, resolve, invoke, builtin, Sem.run_bind, Sem.run_pure, Result.andThen_ok, List.map_toArray, List.map_cons, List.map_nil, hs, hx, hrun]
  exact hK' _ _ (hK A' cap' w' g1 g2 g3 g4)
end
theorem part_win {ws : Win} {i : Nat} {o : Option (List Int)} (h : ws[i]? = some o) (W : World) : (part 80 (wcs ws).toArray (i * 2)).run Try.prog W = .ok (.agg #[.bool o.isSome, .string (strOfNums (o.getD []))]) W := by
  have hx : ((wcs ws).drop (i * 2)).take 2 = [.bool o.isSome, .string (strOfNums (o.getD []))] := by rw [wcs_drop, drop_at h, wcs]; rfl
  cases hq : Try.prog.info? 80 with
  | none => have := szAr; simp [hq] at this
  | some t =>
    have hs : t.size = 2 := by have := szAr; simpa [hq] using this
    simp [run_underlying Try.underlying80, part, sizeOf, typeInfo, hq, hs, go_sem, isAgg]
    rw [hx]
theorem eq_arr (o : Option (List Int)) (W : World) : (Op.equalIn 9999 80 (.agg #[.bool o.isSome, .string (strOfNums (o.getD []))]) (.agg #[.bool false, .string ByteArray.empty])).run Try.prog W = .ok o.isNone W := by
  cases o with
  | none =>
    go_simp
    first | rfl | kernel_rfl | simp [strOfNums, ByteArray.toList_eq]
  | some b => go_simp
theorem eq_items {ws : Win} (hw : ws.length = 16) (W : World) : ∀ is : List Nat, (∀ i ∈ is, i < 16) → (Op.eqItems 9999 80 2 (wcs ws).toArray (wcs none16).toArray is).run Try.prog W = .ok (is.all fun i => ((ws[i]?).getD none).isNone) W
  | [], _ => by simp [Op.eqItems]
  | i :: is, h => by
    have hi := h i List.mem_cons_self
    have h1 : ws[i]? = some ws[i] := List.getElem?_eq_getElem (by omega)
    have h2 : none16[i]? = some none := by unfold none16; rw [List.getElem?_replicate, if_pos hi]
    have p1 := part_win h1 W
    have p2 := part_win h2 W
    have p3 := eq_arr ws[i] W
    have ih := eq_items hw W is fun j hj => h j (List.mem_cons_of_mem _ hj)
    have e2 : (Value.agg #[.bool (none : Option (List Int)).isSome, .string (strOfNums ((none : Option (List Int)).getD []))]) = .agg #[.bool false, .string ByteArray.empty] := by rfl
    rw [e2] at p2
    simp only [Op.eqItems, Sem.run_bind, p1, p2, p3, Result.andThen_ok]
    rw [List.all_cons, h1, Option.getD_some]
    cases hn : ws[i].isNone
    · simp
    · simpa using ih
/-- What comparing a window with the empty one tells. -/
theorem eq_win {ws : Win} (hw : ws.length = 16) (W : World) : (binOp .neq 82 (.agg (wcs ws).toArray) (.agg (wcs none16).toArray)).run Try.prog W = .ok (.bool (!ws.all (·.isNone))) W := by
  rw [run_neq_struct]
  cases hq : Try.prog.info? 80 with
  | none => have := szAr; simp [hq] at this
  | some t =>
    rw [run_equalIn_array W 9999 (t := 82) (e := 80) (n := 16) _ _ Try.underlying82 hq, show Try.prog.cellsOf 80 = 2 by kernel_rfl, eq_items hw W (List.range 16) (fun i hi => List.mem_range.1 hi)]
    have e : (List.range 16).all (fun i => ((ws[i]?).getD none).isNone) = ws.all (·.isNone) := by
      match ws, hw with
      | [a0, a1, a2, a3, a4, a5, a6, a7, a8, a9, b0, b1, b2, b3, b4, b5], _ => rfl
    rw [e]; rfl
theorem miss_mod : ∀ (a : Win) (s t : Int), s % 4096 = t % 4096 → miss s a = miss t a
  | [], s, t, h => rfl
  | o :: a, s, t, h => by rw [miss, miss, h, miss_mod a (s + 1) (t + 1) (by omega)]
theorem miss_rep : ∀ (a : Win) (s : Int), miss s (a ++ [none]) = miss s a
  | [], s => rfl
  | o :: a, s => by
    have h1 : (o :: a ++ [none] : Win).all (·.isNone) = (o :: a : Win).all (·.isNone) := by simp
    have h2 : (o :: a ++ [none] : Win) = o :: (a ++ [none]) := rfl
    rw [h2] at h1 ⊢
    rw [miss, miss, h1, miss_rep a]
theorem miss_end {s : Int} {ws : Win} (h : ws.all (·.isNone) = true) : miss s ws = [] := by
  match ws, h with
  | [], _ => rfl
  | o :: r, h => rw [miss, if_pos h]
theorem miss_step {t : St} {o : Option (List Int)} (hl : t.ws.length = 16) (ho : t.ws[0]? = some o) (ha : t.ws.all (·.isNone) = false) : miss t.s t.ws = (if o.isNone then [t.s % 4096] else []) ++ miss (advS t 1).s (advS t 1).ws := by
  obtain ⟨s, ws, out⟩ := t
  match ws, hl, ho, ha with
  | o2 :: r, hl, ho, ha =>
    obtain rfl : o2 = o := by simpa using ho
    have e : (advS ⟨s, o2 :: r, out⟩ 1).ws = r ++ [none] := by simp [advS]
    rw [e, miss_rep]
    show miss s (o2 :: r) = _
    rw [miss, if_neg (by rw [show (o2 :: r : Win).all (·.isNone) = false from ha]; decide), miss_mod r (s + 1) (advS ⟨s, o2 :: r, out⟩ 1).s (by simp [advS])]
theorem adv_all {t : St} (hl : t.ws.length = 16) : (advS t 16).ws.all (·.isNone) = true := by
  simp only [advS, hl]
  rw [List.drop_eq_nil_of_le (by omega), List.nil_append]
  exact List.all_eq_true.2 fun o ho => by rw [List.eq_of_mem_replicate ho]; rfl
end Go.Proofs.Ytejjafmppihneaa.ro
