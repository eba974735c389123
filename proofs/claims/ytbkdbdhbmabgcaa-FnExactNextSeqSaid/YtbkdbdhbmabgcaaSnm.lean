/- Remembered frames: what the functions of chapter 19 say of lists; slices of them in memory, appends onto them. Condition: none. -/
import Derived.Test.YtbkdbdhbmabgcaaUs19
import Derived.Test.YtbkdbdhbmabgcaaMrf
import Derived.Test.YtbkdbdhbmabgcaaRam
namespace Go.Proofs.Ytbkdbdhbmabgcaa.sn
open Go.RowKit sl harn bx mrw drk stw
set_option linter.unusedVariables false
set_option linter.unusedSimpArgs false
open ux (Sen Fra)

def zn : Sen := ⟨0, 0, 0, 0⟩
abbrev sV (x : Sen) : Value := .agg #[.int .i64 x.From, .int .i64 x.Category, .int .i64 x.Seq, .int .i64 x.Fragment]
def senS : Sh Sen where
  T := 84
  s := 4
  C := fun x _ _ _ => [.int .i64 x.From, .int .i64 x.Category, .int .i64 x.Seq, .int .i64 x.Fragment]
  B := fun _ => []
  len := fun _ _ _ _ => rfl
  one := fun x A n c u hu => by
    simp only [List.mem_cons, List.not_mem_nil, or_false] at hu
    rcases hu with rfl | rfl | rfl | rfl <;> rfl
  pos := by omega
  ne := by decide
def el (x : Sen) : El Sen := ⟨x, none, 0, 0⟩
def see (f : Fra) (k : Int) : Sen := ⟨f.From, k, f.Seq, f.Fragment⟩
def hit (a b : Int) (r : Sen) : Bool := r.From == a && r.Category == b
/-- The first remembered frame of a station and category. -/
def fst (l : List Sen) (a b : Int) : Nat := l.findIdx (hit a b)
def fidx (l : List Sen) (a b : Int) : Int := if fst l a b < l.length then fst l a b else -1
def rem (l : List Sen) (f : Fra) (k : Int) : List Sen := if fst l f.From k < l.length then l.set (fst l f.From k) (see f k) else l ++ [see f k]
def isd (l : List Sen) (f : Fra) (k : Int) : Bool := f.Retry && (decide (fst l f.From k < l.length) && ((l.getD (fst l f.From k) zn).Seq == f.Seq && (l.getD (fst l f.From k) zn).Fragment == f.Fragment))
def acc (l : List Sen) (f : Fra) (k : Int) : List Sen × Bool := if isd l f k = true then (l, false) else (rem l f k, true)
def inr (x : Sen) : Bool := decide (0 ≤ x.From ∧ x.From ≤ 15) && (decide (0 ≤ x.Category ∧ x.Category ≤ 3) && (decide (0 ≤ x.Seq ∧ x.Seq ≤ 4095) && decide (0 ≤ x.Fragment ∧ x.Fragment ≤ 15)))
def okAt (l : List Sen) (i : Nat) : Bool := inr (l.getD i zn) && fst l (l.getD i zn).From (l.getD i zn).Category == i
def vs (l : List Sen) : Bool := (List.range l.length).all (okAt l)
theorem hit_iff {a b : Int} {r : Sen} : hit a b r = true ↔ r.From = a ∧ r.Category = b := by simp [hit]
theorem getD_of {l : List Sen} {i : Nat} {x : Sen} (h : l[i]? = some x) : l.getD i zn = x := by rw [List.getD_eq_getElem?_getD, h]; rfl
theorem take_snoc {α : Type} {l : List α} {i : Nat} {x : α} (h : l[i]? = some x) : l.take (i + 1) = l.take i ++ [x] := by rw [List.take_add_one, h]; rfl
theorem fst_le (l : List Sen) (a b : Int) : fst l a b ≤ l.length := List.findIdx_le_length
theorem fst_hit {l : List Sen} {a b : Int} {k : Nat} {y : Sen} (hp : ∀ i, i < k → hit a b (l.getD i zn) = false) (hy : l[k]? = some y) (hx : hit a b y = true) : fst l a b = k := by
  have hk : k < l.length := by
    rcases Nat.lt_or_ge k l.length with h | h
    · exact h
    · rw [List.getElem?_eq_none h] at hy; cases hy
  have e : l[k] = y := (List.getElem?_eq_some_iff.1 hy).2
  unfold fst
  rw [List.findIdx_eq hk]
  refine ⟨by rw [e]; exact hx, fun j hj => ?_⟩
  have := hp j hj
  rw [List.getD_eq_getElem?_getD, List.getElem?_eq_getElem (by omega)] at this
  exact this
theorem fst_none {l : List Sen} {a b : Int} {k : Nat} (hp : ∀ i, i < k → hit a b (l.getD i zn) = false) (hk : l.length ≤ k) : fst l a b = l.length := by
  unfold fst
  rw [List.findIdx_eq_length]
  intro y hy
  obtain ⟨i, hi, e⟩ := List.getElem_of_mem hy
  have := hp i (by omega)
  rw [List.getD_eq_getElem?_getD, List.getElem?_eq_getElem hi] at this
  subst e
  exact this
theorem fst_at {l : List Sen} {a b : Int} (h : fst l a b < l.length) : hit a b (l.getD (fst l a b) zn) = true := by
  rw [List.getD_eq_getElem?_getD, List.getElem?_eq_getElem h]
  exact List.findIdx_getElem (w := h)
theorem nohit {l : List Sen} {a b : Int} {k : Nat} {y : Sen} (hp : ∀ i, i < k → hit a b (l.getD i zn) = false) (hy : l[k]? = some y) (hx : hit a b y = false) : ∀ i, i < k + 1 → hit a b (l.getD i zn) = false := by
  intro i hi
  rcases Nat.lt_or_ge i k with h | h
  · exact hp i h
  · obtain rfl : i = k := by omega
    rw [getD_of hy]; exact hx
theorem fst_before {l : List Sen} {a b : Int} {j : Nat} (hj : j < fst l a b) : hit a b (l.getD j zn) = false := by
  have h1 : j < l.length := Nat.lt_of_lt_of_le hj (fst_le l a b)
  rw [List.getD_eq_getElem?_getD, List.getElem?_eq_getElem h1]
  have := List.not_of_lt_findIdx hj
  simpa using this
theorem fidx_hit {l : List Sen} {a b : Int} {k : Nat} {y : Sen} (hp : ∀ i, i < k → hit a b (l.getD i zn) = false) (hy : l[k]? = some y) (hx : hit a b y = true) : fidx l a b = k := by
  have h := fst_hit hp hy hx
  have hk := (List.getElem?_eq_some_iff.1 hy).1
  unfold fidx
  rw [h, if_pos hk]
theorem fidx_none {l : List Sen} {a b : Int} {k : Nat} (hp : ∀ i, i < k → hit a b (l.getD i zn) = false) (hk : l.length ≤ k) : fidx l a b = -1 := by
  have h := fst_none hp hk
  unfold fidx
  rw [h, if_neg (by omega)]
theorem fidx_of {l : List Sen} {a b : Int} {k : Nat} (h : fst l a b = k) (hk : k < l.length) : fidx l a b = k := by
  unfold fidx
  rw [h, if_pos hk]
theorem fidx_no {l : List Sen} {a b : Int} (h : ¬ fst l a b < l.length) : fidx l a b = -1 := if_neg h
theorem isd_retry {l : List Sen} {f : Fra} {k : Int} (h : f.Retry = false) : isd l f k = false := by unfold isd; rw [h]; rfl
theorem isd_none {l : List Sen} {f : Fra} {k : Int} (h : ¬ fst l f.From k < l.length) : isd l f k = false := by
  unfold isd
  rw [decide_eq_false h]
  cases f.Retry <;> rfl
theorem isd_some {l : List Sen} {f : Fra} {k : Int} {i : Nat} {y : Sen} (hr : f.Retry = true) (hi : fst l f.From k = i) (hy : l[i]? = some y) : isd l f k = (y.Seq == f.Seq && y.Fragment == f.Fragment) := by
  have hk := (List.getElem?_eq_some_iff.1 hy).1
  unfold isd
  rw [hr, hi, getD_of hy, decide_eq_true hk]
  rfl
theorem rem_some {l : List Sen} {f : Fra} {k : Int} {i : Nat} (hi : fst l f.From k = i) (hk : i < l.length) : rem l f k = l.set i (see f k) := by
  unfold rem
  rw [hi, if_pos hk]
theorem rem_none {l : List Sen} {f : Fra} {k : Int} (h : ¬ fst l f.From k < l.length) : rem l f k = l ++ [see f k] := if_neg h
theorem acc_no {l : List Sen} {f : Fra} {k : Int} (h : isd l f k = true) : acc l f k = (l, false) := if_pos h
theorem acc_yes {l : List Sen} {f : Fra} {k : Int} (h : isd l f k = false) : acc l f k = (rem l f k, true) := if_neg (by rw [h]; simp)
theorem vs_no {l : List Sen} {i : Nat} (hi : i < l.length) (h : okAt l i = false) : vs l = false := by
  unfold vs
  rw [List.all_eq_false]
  exact ⟨i, List.mem_range.2 hi, by rw [h]; simp⟩
theorem vs_yes {l : List Sen} (h : ∀ i, i < l.length → okAt l i = true) : vs l = true := by
  unfold vs
  rw [List.all_eq_true]
  exact fun i hi => h i (List.mem_range.1 hi)
theorem vs_at {l : List Sen} (h : vs l = true) {i : Nat} (hi : i < l.length) : okAt l i = true := by
  unfold vs at h
  rw [List.all_eq_true] at h
  exact h i (List.mem_range.2 hi)

section
variable {w w' : World} {lo hi n cap : Nat} {A : Option Addr} {ms : List Sen}
theorem at_ {k : Nat} (h : Rq senS w lo hi A n cap ms) (hk : k < n) : ∃ b off x, A = some ⟨b, off, none⟩ ∧ ms[k]? = some x ∧ lo ≤ b ∧ b < hi ∧
    w.cell? ⟨b, off + k * 4, none⟩ = some (.int .i64 x.From) ∧ w.cell? ⟨b, off + k * 4 + 1, none⟩ = some (.int .i64 x.Category) ∧ w.cell? ⟨b, off + k * 4 + 2, none⟩ = some (.int .i64 x.Seq) ∧ w.cell? ⟨b, off + k * 4 + 3, none⟩ = some (.int .i64 x.Fragment) := by
  obtain ⟨b, off, x, e, hx, h1, h2, A', n', c', hr, hb⟩ := h.at_ hk
  exact ⟨b, off, x, e, hx, h1, h2, hr 0 _ rfl, hr 1 _ rfl, hr 2 _ rfl, hr 3 _ rfl⟩
theorem map_el (l : List Sen) : (l.map el).map (fun e : El Sen => e.x) = l := by
  rw [List.map_map]
  exact List.map_id' l
theorem oe_rq (h : Oe senS w lo hi A n cap (ms.map el)) : Rq senS w lo hi A n cap ms := by
  have h1 := h.rq
  rwa [map_el] at h1
theorem oe_n (h : Oe senS w lo hi A n cap (ms.map el)) : ms.length = n := by
  have h1 := h.len
  rwa [List.length_map] at h1
theorem rd0 (w : World) (lo hi : Nat) (h : hi ≤ w.heap.size) : Rd .u8 w lo hi none 0 0 [] := (bx.ow_none 5 .u8 w lo hi h).rd
theorem body0 (w : World) (lo hi : Nat) (h : hi ≤ w.heap.size) (l : List Sen) : ∀ e ∈ l.map el, Ow 5 .u8 w lo hi e.A e.n e.c (senS.B e.x) := by
  intro e he
  obtain ⟨x, _, rfl⟩ := List.mem_map.1 he
  exact bx.ow_none _ _ _ _ _ h
theorem ds0 (l : List Sen) : Ds (l.map el) := by
  refine List.pairwise_map.2 ?_
  exact List.Pairwise.imp (R := fun _ _ => True) (fun _ a b ha => by cases ha) (List.pairwise_of_forall (fun _ _ => trivial))
theorem src0 {b off : Nat} (h : Rq senS w lo hi (some ⟨b, off, none⟩) n cap ms) : ∀ j u, (flat senS (ms.map el))[j]? = some u → w.cell? ((⟨b, off, none⟩ : Addr).add j) = some u := by
  intro j u hu
  have hj : j < (flat senS (ms.map el)).length := (List.getElem?_eq_some_iff.1 hu).1
  rw [flat_len, List.length_map, show senS.s = 4 from rfl] at hj
  have hl := h.len
  have hi' : j / 4 < n := by omega
  obtain ⟨b1, off1, x, e, hx, _, _, A', n', c', hr, _⟩ := h.at_ hi'
  injection e with e; injection e with e1 e2 _
  subst e1 e2
  have he : (ms.map el)[j / 4]? = some (el x) := by rw [List.getElem?_map, hx]; rfl
  have hr4 : j % 4 < 4 := Nat.mod_lt _ (by omega)
  have hc : (cells senS (el x))[j % 4]? = some ((cells senS (el x))[j % 4]'(by rw [cells_len]; exact hr4)) := List.getElem?_eq_getElem _
  have h1 := flat_cell senS he hc
  have ej : j / 4 * senS.s + j % 4 = j := by show j / 4 * 4 + j % 4 = j; omega
  rw [ej, hu] at h1
  rw [← Option.some.inj h1] at hc
  have h2 := hr (j % 4) u hc
  have e2 : (⟨b, off, none⟩ : Addr).add j = ⟨b, off + j / 4 * senS.s + j % 4, none⟩ := by
    have : off + j / 4 * senS.s + j % 4 = off + j := by show off + j / 4 * 4 + j % 4 = off + j; omega
    rw [this]
    unfold Addr.add; split <;> simp_all
  rw [e2]
  exact h2
end
/-- A row appended onto a row of the call's own: only that row's block may change. -/
theorem more {P : Program} (t ty : TypeId) (i : TypeInfo) (z : Value) (h1 : P.underlying t = some (.slice senS.T)) (h2 : P.info? senS.T = some i) (h3 : i.zero = some z) (h4 : i.size = senS.s) (h5 : i.bytes ≤ 128) (h6 : z.cells.size = senS.s)
    {w : World} {lo hi lo2 hi2 n cap m c : Nat} {A B : Option Addr} {xs ys : List Sen} (h : Oe senS w lo hi A n cap (xs.map el)) (hr : Rq senS w lo2 hi2 B m c ys) (hn : n + m ≤ 1073741824) (hlo : lo ≤ w.heap.size) :
    ∃ A' cap' w', (Builtin.append_ #[t, t] ty #[.slice A n cap, .slice B m c]).run P w = .ok (.slice A' (n + m) cap') w' ∧ Oe senS w' lo w'.heap.size A' (n + m) cap' ((xs ++ ys).map el) ∧ w.grownBy w' (blkOf A) := by
  cases B with
  | none =>
    have hm : m = 0 := by
      rcases Nat.eq_zero_or_pos m with h | h
      · exact h
      · obtain ⟨b, off, x, e, _⟩ := hr.at_ h; cases e
    subst hm
    have hy : ys = [] := List.eq_nil_of_length_eq_zero hr.len
    subst hy
    refine ⟨A, cap, w, ?_, by simpa using h.up, grown_below (Below.refl _ _) _⟩
    rcases h.form with ⟨rfl, rfl, rfl⟩ | ⟨g, cur, rfl, _, _, _, hnc, _⟩
    · simp [Builtin.append_, run_underlying h1, sizeOf, typeInfo, h2, Builtin.lenOf, Builtin.firstCells]
    · simp [Builtin.append_, run_underlying h1, sizeOf, typeInfo, h2, Builtin.lenOf, Builtin.firstCells, hnc, storeCells]
  | some ad =>
    rcases Nat.eq_zero_or_pos m with h0 | h0
    · subst h0
      have hy : ys = [] := List.eq_nil_of_length_eq_zero hr.len
      subst hy
      obtain ⟨A', cap', w', hrun, g1, g2, _, _⟩ := h.more (P := P) t ty i z h1 h2 h3 h4 h5 h6 ad 0 c [] rfl (fun j u hu => by cases hu) (fun f hf => by cases hf) (by rw [List.append_nil]; exact ds0 xs) hn hlo
      exact ⟨A', cap', w', hrun, by rw [List.append_nil] at g1 ⊢; exact g1, g2⟩
    · obtain ⟨b, off, x, e, _⟩ := hr.at_ h0
      injection e with e
      subst e
      obtain ⟨A', cap', w', hrun, g1, g2, _, _⟩ := h.more (P := P) t ty i z h1 h2 h3 h4 h5 h6 ⟨b, off, none⟩ m c (ys.map el) (by rw [List.length_map]; exact hr.len) (src0 hr) (fun f hf => ⟨lo, lo, Nat.le_refl _, body0 w lo lo hlo ys f hf⟩) (by rw [← List.map_append]; exact ds0 _) hn hlo
      exact ⟨A', cap', w', hrun, by rw [List.map_append]; exact g1, g2⟩
/-- The walk's form. -/
theorem list_cat {P : Program} (w : World) {ops : Array Oper} {rest : List Oper} {o : Oper} {a : Act} {Q : Exit → Act → World → Prop} (hgd : o.guard = none) (s x : Operand) (t : TypeId)
    (hop : o.op = .call { callee := .builtin .append, args := #[s, x], argTypes := #[t, t] })
    {i : TypeInfo} {z : Value} (h1 : P.underlying t = some (.slice senS.T)) (h2 : P.info? senS.T = some i) (h3 : i.zero = some z) (h4 : i.size = senS.s) (h5 : i.bytes ≤ 128) (h6 : z.cells.size = senS.s)
    {lo hi lo2 hi2 n cap m c : Nat} {A B : Option Addr} {xs ys : List Sen} (hs : a.eval s = .slice A n cap) (hx : a.eval x = .slice B m c) (h : Oe senS w lo hi A n cap (xs.map el)) (hr : Rq senS w lo2 hi2 B m c ys) (hn : n + m ≤ 1073741824) (hlo : lo ≤ w.heap.size)
    (hK : ∀ A' cap' w', Oe senS w' lo w'.heap.size A' (n + m) cap' ((xs ++ ys).map el) → w.grownBy w' (blkOf A) → wpList P ops Q rest (a.put o.dst (.slice A' (n + m) cap')) w') : wpList P ops Q (o :: rest) a w := by
  refine wpList_plain hgd fun K hK' => ?_
  obtain ⟨A', cap', w', hrun, g1, g2⟩ := more (P := P) t o.type i z h1 h2 h3 h4 h5 h6 h hr hn hlo
  unfold Oper.wp execOp
  simp only [hop, resolve, invoke, builtin, Sem.run_bind, Sem.run_pure, Result.andThen_ok, List.map_toArray, List.map_cons, List.map_nil, hs, hx, hrun]
  exact hK' _ _ (hK A' cap' w' g1 g2)
theorem list_catE {P : Program} (w : World) {ops : Array Oper} {rest : List Oper} {o : Oper} {a : Act} {Q : Exit → Act → World → Prop} (hgd : o.guard = none) (s x : Operand) (t : TypeId)
    (hop : o.op = .call { callee := .builtin .append, args := #[s, x], argTypes := #[t, t] })
    {i : TypeInfo} {z : Value} (h1 : P.underlying t = some (.slice senS.T)) (h2 : P.info? senS.T = some i) (h3 : i.zero = some z) (h4 : i.size = senS.s) (h5 : i.bytes ≤ 128) (h6 : z.cells.size = senS.s)
    {lo2 hi2 m c : Nat} {B : Option Addr} {ys : List Sen} (hs : a.eval s = .slice (some ⟨w.heap.size, 0, none⟩) 0 0) (hx : a.eval x = .slice B m c) (hr : Rq senS w lo2 hi2 B m c ys) (hn : m ≤ 1073741824)
    (hK : ∀ A' cap' w', Oe senS w' w.heap.size w'.heap.size A' m cap' (ys.map el) → Below w.heap.size w w' → wpList P ops Q rest (a.put o.dst (.slice A' m cap')) w') : wpList P ops Q (o :: rest) a (w.alloc (.cells #[] 84)) := by
  have hb := bx.below_box w (.cells #[] 84)
  have he : Oe senS (w.alloc (.cells #[] 84)) w.heap.size (w.alloc (.cells #[] 84)).heap.size (some ⟨w.heap.size, 0, none⟩) 0 0 (([] : List Sen).map el) := (Oe.empty senS w).up
  refine list_cat _ hgd s x t hop h1 h2 h3 h4 h5 h6 hs hx he (hr.below hb) (by omega) (by simp) fun A' cap' w' ho hg => ?_
  rw [Nat.zero_add] at ho ⊢
  refine hK A' cap' w' (by simpa using ho) ?_
  exact hb.trans ⟨hg.os, hg.tape, hg.output, hg.size, fun k hk => hg.block k (by simp; omega) (fun e => by
    have e9 : k = w.heap.size := by simpa using e
    omega)⟩
/-- A slice of remembered frames of the call's own that is handed back. -/
def NnPost (l : List Sen) (w : World) (e : Ending) (w' : World) : Prop := ∃ A n cap, e = .returned (.slice A n cap) ∧ Oe senS w' w.heap.size w'.heap.size A n cap (l.map el) ∧ Below w.heap.size w w'
theorem nn_parts {l : List Sen} {w w' : World} {e : Ending} (h : NnPost l w e w') : ∃ A n cap, e = .returned (.slice A n cap) ∧ Oe senS w' w.heap.size w'.heap.size A n cap (l.map el) ∧ Below w.heap.size w w' := h
def AcPost (p : List Sen × Bool) (w : World) (e : Ending) (w' : World) : Prop := ∃ A n cap, e = .returned (.tuple #[.slice A n cap, .bool p.2]) ∧ Oe senS w' w.heap.size w'.heap.size A n cap (p.1.map el) ∧ Below w.heap.size w w'
theorem ac_parts {p : List Sen × Bool} {w w' : World} {e : Ending} (h : AcPost p w e w') : ∃ A n cap, e = .returned (.tuple #[.slice A n cap, .bool p.2]) ∧ Oe senS w' w.heap.size w'.heap.size A n cap (p.1.map el) ∧ Below w.heap.size w w' := h
theorem infoN : (Try.prog.info? 84).map (fun i => (i.zero, i.size, i.bytes)) = some (some (.agg #[.int .i64 0, .int .i64 0, .int .i64 0, .int .i64 0]), 4, 32) := by kernel_rfl
theorem szN : (Try.prog.info? 84).map (·.size) = some 4 := by kernel_rfl
theorem szK : (Try.prog.info? 88).map (·.size) = some 2 := by kernel_rfl
theorem oneN (a b c d : Int) : (#[.int .i64 a, .int .i64 b, .int .i64 c, .int .i64 d] : Array Value).all (·.oneCell') = true := ux.oneSen a b c d
theorem oneK (a b : Int) : (#[.int .i64 a, .int .i64 b] : Array Value).all (·.oneCell') = true :=
  all_oneCell_toArray (cs := [.int .i64 a, .int .i64 b]) (by intro v hv; simp only [List.mem_cons, List.not_mem_nil, or_false] at hv; rcases hv with rfl | rfl <;> rfl)
section
variable {w : World} {lo hi n c : Nat} {A : Option Addr} {l : List Sen}
open ux (RR OO rowSen sen Ue)
theorem sen_rq (h : RR rowSen w lo hi (.slice A n c) l) : Rq senS w lo hi A n c l := by
  obtain ⟨A', n', c', e, h1, h2, h3, h4, h5⟩ := h
  injection e with e1 e2 e3
  subst e1 e2 e3
  refine ⟨h1, h2, h3, h4, fun hn => ?_⟩
  obtain ⟨b, off, e, g1, g2, g3⟩ := h5 hn
  refine ⟨b, off, e, g1, g2, fun i x hx => ?_⟩
  obtain ⟨u, r1, r2⟩ := g3 i x hx
  obtain rfl := ux.sen_r (r2 : RR sen w lo hi u x)
  exact ⟨none, 0, 0, r1, rd0 w lo hi h4⟩
theorem sen_rr (h : Rq senS w lo hi A n c l) : RR rowSen w lo hi (.slice A n c) l := by
  obtain ⟨h1, h2, h3, h4, h5⟩ := h
  refine ⟨A, n, c, rfl, h1, h2, h3, h4, fun hn => ?_⟩
  obtain ⟨b, off, e, g1, g2, g3⟩ := h5 hn
  refine ⟨b, off, e, g1, g2, fun i x hx => ?_⟩
  obtain ⟨A0, n0, c0, r1, r2⟩ := g3 i x hx
  exact ⟨ux.senV x, r1, ux.sen_rr x h4⟩
def ue (x : Sen) : Ue Sen := ⟨[], ux.senV x, x⟩
theorem flt0 : ∀ l : List Sen, flat senS (l.map el) = ux.flt (l.map ue)
  | [] => rfl
  | x :: r => by
    have e1 : flat senS ((x :: r).map el) = cells senS (el x) ++ flat senS (r.map el) := rfl
    have e2 : ux.flt ((x :: r).map ue) = cells senS (el x) ++ ux.flt (r.map ue) := rfl
    rw [e1, e2, flt0 r]
theorem fps0 : ∀ l : List Sen, ux.fps (l.map ue) = []
  | [] => rfl
  | x :: r => by
    have e1 : ux.fps ((x :: r).map ue) = [] ++ ux.fps (r.map ue) := rfl
    rw [e1, fps0 r]; rfl
theorem sen_oo (h : Oe senS w lo hi A n c (l.map el)) : ∃ fp, OO rowSen w lo hi fp (.slice A n c) l := by
  have hes : (l.map ue).map (fun u : Ue Sen => u.x) = l := by rw [List.map_map]; exact List.map_id' l
  have hel : ∀ u ∈ l.map ue, sen.O w u.fp u.v u.x ∧ u.v.cells.size = sen.n ∧ u.v.cells.all (·.oneCell') = true := by
    intro u hu
    obtain ⟨x, _, rfl⟩ := List.mem_map.1 hu
    exact ⟨⟨rfl, rfl, List.nodup_nil⟩, rfl, ux.oneSen _ _ _ _⟩
  rcases h.form with ⟨rfl, rfl, rfl⟩ | ⟨g, cur, rfl, g1, g2, g3, g4, g5, g6, g7⟩
  · have hl := h.len
    rw [List.length_map] at hl
    obtain rfl : l = [] := List.length_eq_zero_iff.1 hl
    exact ⟨[], ⟨none, 0, 0, [], rfl, rfl, fun _ h => (by cases h), List.nodup_nil, .inl ⟨rfl, rfl, rfl, rfl, rfl⟩⟩, fun b hb => (by cases hb), h.hi_⟩
  · refine ⟨[g], ⟨_, n, c, l.map ue, rfl, hes, hel, by simp, .inr ⟨g, cur, rfl, g3, by rw [List.length_map]; exact oe_n h, g4, g5, g6, ?_, by rw [fps0]⟩⟩, fun b hb => ?_, h.hi_⟩
    · exact g7.trans (flt0 l)
    · obtain rfl : b = g := by simpa using hb
      exact ⟨g1, g2⟩
end
theorem rowSen_bd (l : List Sen) : ux.rowSen.tot l ≤ 64 * ux.rowSen.sz l := ux.rowSen_tot l
theorem row_len {l : List Sen} : ux.rowSen.sz l = l.length := by
  show l.length + ux.sumT ux.sen.sz l = l.length
  have h : ∀ x : Sen, ux.sen.sz x = 0 := fun _ => rfl
  rw [ux.sumT_zero h]; rfl
theorem rem_len (l : List Sen) (f : Fra) (k : Int) : (rem l f k).length ≤ l.length + 1 := by
  unfold rem
  split
  · rw [List.length_set]; omega
  · rw [List.length_append]; simp
theorem acc_len (l : List Sen) (f : Fra) (k : Int) : (acc l f k).1.length ≤ l.length + 1 := by
  unfold acc
  split
  · dsimp only; omega
  · exact rem_len l f k
theorem ac_out {l : List Sen} {d : Bool} {w w' : World} {e : Ending} (h : AcPost (l, d) w e w') : ∃ A n cap, e = .returned (.tuple #[.slice A n cap, .bool d]) ∧ Oe senS w' w.heap.size w'.heap.size A n cap (l.map el) ∧ Below w.heap.size w w' := h
end Go.Proofs.Ytbkdbdhbmabgcaa.sn
