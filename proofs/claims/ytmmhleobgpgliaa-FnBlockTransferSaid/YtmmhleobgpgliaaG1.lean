/- Merged texts of this seat. Kit: What a walk is told of a slice of integers that came in, and small closings. Condition: none. | Sl: Slices of integers in memory: what a slice that is read holds (Rd), what a slice of the call's own holds (Ow), and how both are kept from world to world. Condition: none. | Harn: The harness functions of the exact laws over slices of numbers: the copy, the comparison, the marks. Condition: lengths up to 2^26. | Atv: A byte of the input, as laws read it, told by the input alone. Condition: the slice of bytes reads as listed. | App: An append onto a slice of numbers of the call's own, whatever slice of numbers is appended (nil and empty ones too). Condition: together at most 2^30 elements of at most 8 bytes. | Own: Small laws on rows of the call's own and on worlds that only drew. Condition: none. | Rng: Ranges, least and greatest: the program's and the specification's functions. Condition: none. | Box: A block that holds an array of cells, whatever the struct; results that are one bool or one integer; ranges. Condition: none. | Bsm: The sender of block acknowledgments as numbers: what is valid, outstanding, acknowledged, given up. No program. | Draw: The cursor of a draw: what its functions return lies in the stated ranges, and of what was there only the cursor's own block is written. Condition: the cursor reads a slice of bytes that lies outside its own block. | Hash: The hash of a list of integers, program and specification. Condition: none. | Reg: A region that draws its order, by what each operation leaves: one duty for each operation, none for an order. Each operation is shown to leave a value that is right, in whatever order the others came; what is right stays so; one operation that writes (the last in every order) may end the region. Condition: the region's form, a Bool that the kernel reckons. -/
import Derived.Test.YtmmhleobgpgliaaRows
import Derived.WalkKit
import Derived.Below
import Derived.OwnWalk
import Derived.Laws.OwnMore
import Derived.Maps.AppendAt
import Derived.Deep.AppendLies
import Derived.Deep.Draws
import Derived.RegionTactic
import Derived.Laws.MakeOwn
import Derived.Laws.Entries
import Derived.OpenShut
import Derived.ProofKit
import Derived.LoopTactic
import Derived.Deep.QuietTactic
import Derived.BigQuiet
import Derived.Outline
import Derived.Lib.Hide
import Derived.BigFrame
import Derived.OneCell
import Derived.Orders
import Derived.StillTail
section
namespace Go.Proofs.Ytmmhleobgpgliaa.kit

/-- A slice of integers: nil, or a row of 'cap' cells that hold the numbers 'zs', each fitting its kind. -/
def IsRow (k : IntKind) (w : World) (a : Option Addr) (len cap : Nat) (zs : List Int) : Prop :=
  (a = none ∧ len = 0 ∧ cap = 0 ∧ zs = []) ∨
  ∃ x, a = some x ∧ len ≤ cap ∧ cap ≤ maxLen ∧ zs.length = cap ∧ (∀ i, i < zs.length → w.cell? (x.add i) = some (.int k (zs.getD i 0))) ∧ ∀ n ∈ zs, (Lit.int k n).wf = true
end Go.Proofs.Ytmmhleobgpgliaa.kit
end

section
namespace Go.Proofs.Ytmmhleobgpgliaa.sl
open Go.RowKit

def Wf (k : IntKind) (zs : List Int) : Prop := ∀ z ∈ zs, (Lit.int k z).wf = true
theorem Wf.nil (k : IntKind) : Wf k [] := fun _ h => by cases h
theorem Wf.append {k : IntKind} {a b : List Int} (h : Wf k a) (g : Wf k b) : Wf k (a ++ b) := fun z hz => by
  rcases List.mem_append.1 hz with hz | hz
  · exact h z hz
  · exact g z hz
theorem Wf.one {k : IntKind} {x : Int} (h : (Lit.int k x).wf = true) : Wf k [x] := fun z hz => by
  have : z = x := by simpa using hz
  subst this; exact h
theorem Wf.left {k : IntKind} {a b : List Int} (h : Wf k (a ++ b)) : Wf k a := fun z hz => h z (List.mem_append_left _ hz)
theorem Wf.right {k : IntKind} {a b : List Int} (h : Wf k (a ++ b)) : Wf k b := fun z hz => h z (List.mem_append_right _ hz)
theorem Wf.drop {k : IntKind} {a : List Int} (h : Wf k a) (i : Nat) : Wf k (a.drop i) := fun z hz => h z (List.mem_of_mem_drop hz)
theorem Wf.take {k : IntKind} {a : List Int} (h : Wf k a) (i : Nat) : Wf k (a.take i) := fun z hz => h z (List.mem_of_mem_take hz)
theorem Wf.getD {k : IntKind} {a : List Int} (h : Wf k a) {i : Nat} (hi : i < a.length) : (Lit.int k (a.getD i 0)).wf = true := by
  rw [List.getD_eq_getElem?_getD, List.getElem?_eq_getElem hi]; exact h _ (List.getElem_mem hi)
theorem Wf.u8 {a : List Int} (h : Wf .u8 a) : ∀ z ∈ a, 0 ≤ z ∧ z ≤ 255 := fun z hz => by
  have := bounds_u8 (h z hz); omega
theorem Wf.of_u8 {a : List Int} (h : ∀ z ∈ a, 0 ≤ z ∧ z ≤ 255) : Wf .u8 a := fun z hz => WalkArith.wf_u8 (by have := h z hz; omega)
theorem Wf.i64 {a : List Int} (h : Wf .i64 a) : ∀ z ∈ a, -9223372036854775808 ≤ z ∧ z ≤ 9223372036854775807 := fun z hz => by
  have := bounds_i64 (h z hz); omega
theorem Wf.of_i64 {a : List Int} (h : ∀ z ∈ a, -9223372036854775808 ≤ z ∧ z ≤ 9223372036854775807) : Wf .i64 a := fun z hz => WalkArith.wf_i64 (by have := h z hz; omega)

/-- Only blocks from lo to below hi of what was there may have been written. -/
structure Tch (lo hi : Nat) (w w' : World) : Prop where
  os : w'.os = w.os
  tape : w'.tape = w.tape
  output : w'.output = w.output
  size : w.heap.size ≤ w'.heap.size
  block : ∀ k, k < w.heap.size → (k < lo ∨ hi ≤ k) → w'.heap[k]? = w.heap[k]?
theorem Tch.refl (lo hi : Nat) (w : World) : Tch lo hi w w := ⟨rfl, rfl, rfl, Nat.le_refl _, fun _ _ _ => rfl⟩
theorem Tch.below {lo hi B : Nat} {w w' : World} (h : Tch lo hi w w') (hB : B ≤ lo) (hs : B ≤ w.heap.size) : Below B w w' :=
  ⟨h.os, h.tape, h.output, h.size, fun k hk => h.block k (by omega) (Or.inl (by omega))⟩

/-- A slice of numbers that is read: its address is looked at only where there is an element. -/
def Rd (k : IntKind) (w : World) (lo hi : Nat) (A : Option Addr) (n cap : Nat) (zs : List Int) : Prop :=
  zs.length = n ∧ n ≤ cap ∧ cap ≤ maxLen ∧ hi ≤ w.heap.size ∧ Wf k zs ∧ (0 < n → ∃ b off, A = some ⟨b, off, none⟩ ∧ lo ≤ b ∧ b < hi ∧ ∀ i, i < n → w.cell? ⟨b, off + i, none⟩ = some (.int k (zs.getD i 0)))
/-- A slice of numbers that the call itself has made. -/
def Ow (E : TypeId) (k : IntKind) (w : World) (lo hi : Nat) (A : Option Addr) (n cap : Nat) (zs : List Int) : Prop :=
  w.ownsRow lo E 1 (.slice A n cap) n (zs.map (Value.int k)) ∧ Wf k zs ∧ hi ≤ w.heap.size ∧ ∀ g o, A = some ⟨g, o, none⟩ → g < hi

section
variable {k : IntKind} {w w' : World} {lo hi n cap : Nat} {A : Option Addr} {zs : List Int} {E : TypeId}

theorem Rd.len (h : Rd k w lo hi A n cap zs) : zs.length = n := h.1
theorem Rd.cap_ (h : Rd k w lo hi A n cap zs) : n ≤ cap ∧ cap ≤ 9223372036854775807 := ⟨h.2.1, by have := h.2.2.1; unfold maxLen at this; omega⟩
theorem Rd.hi_ (h : Rd k w lo hi A n cap zs) : hi ≤ w.heap.size := h.2.2.2.1
theorem Rd.wf (h : Rd k w lo hi A n cap zs) : Wf k zs := h.2.2.2.2.1
theorem Rd.at_ (h : Rd k w lo hi A n cap zs) {i : Nat} (hi' : i < n) : ∃ b off, A = some ⟨b, off, none⟩ ∧ lo ≤ b ∧ b < hi ∧ w.cell? ⟨b, off + i, none⟩ = some (.int k (zs.getD i 0)) := by
  obtain ⟨b, off, e, h1, h2, h3⟩ := h.2.2.2.2.2 (by omega)
  exact ⟨b, off, e, h1, h2, h3 i hi'⟩
theorem Rd.same (h : Rd k w lo hi A n cap zs) (hs : w.heap.size ≤ w'.heap.size) (hb : ∀ b, lo ≤ b → b < hi → w'.heap[b]? = w.heap[b]?) : Rd k w' lo hi A n cap zs := by
  obtain ⟨h1, h2, h3, h4, h5, h6⟩ := h
  refine ⟨h1, h2, h3, by omega, h5, fun hn => ?_⟩
  obtain ⟨b, off, e, g1, g2, g3⟩ := h6 hn
  exact ⟨b, off, e, g1, g2, fun i hi => (World.cell?_of_block (w := w) (hb b g1 g2)).trans (g3 i hi)⟩
theorem Rd.below (h : Rd k w lo hi A n cap zs) (hb : Below w.heap.size w w') : Rd k w' lo hi A n cap zs :=
  h.same hb.size fun b _ hlt => hb.block b (by have := h.hi_; omega)
theorem Rd.tch (h : Rd k w lo hi A n cap zs) {l r : Nat} (hb : Tch l r w w') (hd : hi ≤ l ∨ r ≤ lo) : Rd k w' lo hi A n cap zs :=
  h.same hb.size fun b h1 h2 => hb.block b (by have := h.hi_; omega) (by omega)
theorem Rd.wide (h : Rd k w lo hi A n cap zs) : Rd k w 0 w.heap.size A n cap zs := by
  obtain ⟨h1, h2, h3, h4, h5, h6⟩ := h
  refine ⟨h1, h2, h3, Nat.le_refl _, h5, fun hn => ?_⟩
  obtain ⟨b, off, e, g1, g2, g3⟩ := h6 hn
  exact ⟨b, off, e, by omega, by omega, g3⟩
theorem Rd.nil (k : IntKind) (w : World) (A : Option Addr) (cap lo hi : Nat) (hc : cap ≤ maxLen) (hh : hi ≤ w.heap.size) : Rd k w lo hi A 0 cap [] :=
  ⟨rfl, by omega, hc, hh, Wf.nil k, fun h => absurd h (by omega)⟩
/-- A cut of a slice that is read. -/
theorem Rd.cut (h : Rd k w lo hi A n cap zs) (i j c : Nat) (A' : Option Addr) (hA : i < j → A' = A.map (·.add i)) (hij : i ≤ j) (hj : j ≤ n) (hc : j - i ≤ c) (hcm : c ≤ maxLen) :
    Rd k w lo hi A' (j - i) c ((zs.drop i).take (j - i)) := by
  obtain ⟨h1, h2, h3, h4, h5, h6⟩ := h
  refine ⟨by simp; omega, hc, hcm, h4, (h5.drop i).take _, fun hn => ?_⟩
  obtain ⟨b, off, rfl, g1, g2, g3⟩ := h6 (by omega)
  refine ⟨b, off + i, ?_, g1, g2, fun m hm => ?_⟩
  · rw [hA (by omega)]; simp [Addr.add]
  · rw [Nat.add_assoc, g3 (i + m) (by omega)]
    congr 2
    rw [List.getD_eq_getElem?_getD, List.getD_eq_getElem?_getD, List.getElem?_take, if_pos hm, List.getElem?_drop]

theorem Ow.len (h : Ow E k w lo hi A n cap zs) : zs.length = n := by have := h.1.1; simpa using this
theorem Ow.wf (h : Ow E k w lo hi A n cap zs) : Wf k zs := h.2.1
theorem Ow.hi_ (h : Ow E k w lo hi A n cap zs) : hi ≤ w.heap.size := h.2.2.1
theorem Ow.form (h : Ow E k w lo hi A n cap zs) : (A = none ∧ n = 0 ∧ cap = 0) ∨ ∃ g cur, A = some ⟨g, 0, none⟩ ∧ lo ≤ g ∧ g < hi ∧ w.heap[g]? = some (.cells cur E (0, 0)) ∧ n ≤ cap ∧ cap ≤ maxLen ∧ cur.size = cap ∧ cur.toList.take n = zs.map (Value.int k) := by
  rcases h.1.2 with ⟨e, h0⟩ | ⟨g, c, cur, e, h1, h2, h3, h4, h5, h6⟩
  · injection e with e1 e2 e3
    exact Or.inl ⟨e1, e2, e3⟩
  · injection e with e1 e2 e3
    subst e3
    exact Or.inr ⟨g, cur, e1, h1, h.2.2.2 g 0 e1, h2, h3, h4, by simpa using h5, by simpa using h6⟩
theorem Ow.rd (h : Ow E k w lo hi A n cap zs) : Rd k w lo hi A n cap zs := by
  have hl := h.len
  rcases h.form with ⟨rfl, rfl, rfl⟩ | ⟨g, cur, rfl, h1, h2, h3, h4, h5, h6, h7⟩
  · exact ⟨hl, Nat.le_refl _, by unfold maxLen; omega, h.hi_, h.wf, fun h => absurd h (by omega)⟩
  · refine ⟨hl, h4, h5, h.hi_, h.wf, fun _ => ⟨g, 0, rfl, h1, h2, fun i hi' => ?_⟩⟩
    have hc := h.1.cellAt i (by simpa using hi')
    rw [Nat.zero_add, hc]
    rw [List.getElem?_map, List.getD_eq_getElem?_getD, List.getElem?_eq_getElem (show i < zs.length by omega)]
    rfl
theorem Ow.free (h : Ow E k w lo hi A n cap zs) {b off : Nat} (e : A = some ⟨b, off, none⟩) (i : Nat) : w.frozen? ⟨b, i, none⟩ = false := by
  rcases h.form with ⟨rfl, _, _⟩ | ⟨g, cur, rfl, h1, h2, h3, h4⟩
  · cases e
  · injection e with e; injection e with e _; subst e
    simp [World.frozen?, h3]
theorem Ow.same (h : Ow E k w lo hi A n cap zs) (hs : w.heap.size ≤ w'.heap.size) (hb : ∀ b, lo ≤ b → b < hi → w'.heap[b]? = w.heap[b]?) : Ow E k w' lo hi A n cap zs := by
  obtain ⟨⟨h1, h2⟩, h3, h4, h5⟩ := h
  refine ⟨⟨h1, ?_⟩, h3, by omega, h5⟩
  rcases h2 with h2 | ⟨g, c, cur, e, g1, g2, g3⟩
  · exact Or.inl h2
  · injection e with e1 e2 e3
    refine Or.inr ⟨g, c, cur, by rw [e1, e3], g1, ?_, g3⟩
    rw [hb g g1 (h5 g 0 e1)]; exact g2
theorem Ow.below (h : Ow E k w lo hi A n cap zs) (hb : Below w.heap.size w w') : Ow E k w' lo hi A n cap zs :=
  h.same hb.size fun b _ hlt => hb.block b (by have := h.hi_; omega)
theorem Ow.tch (h : Ow E k w lo hi A n cap zs) {l r : Nat} (hb : Tch l r w w') (hd : hi ≤ l ∨ r ≤ lo) : Ow E k w' lo hi A n cap zs :=
  h.same hb.size fun b h1 h2 => hb.block b (by have := h.hi_; omega) (by omega)
theorem Ow.of_own {v : Value} (h : w.ownsRow lo E 1 v n (zs.map (Value.int k))) (hw : Wf k zs) : ∃ A cap, v = .slice A n cap ∧ Ow E k w lo w.heap.size A n cap zs := by
  rcases h.2 with ⟨rfl, rfl⟩ | ⟨g, c, cur, rfl, h1, h2, h3⟩
  · exact ⟨none, 0, rfl, h, hw, Nat.le_refl _, fun _ _ e => by cases e⟩
  · exact ⟨_, c, rfl, h, hw, Nat.le_refl _, fun b o e => by injection e with e; injection e with e _; subst e; exact lt_of_block h2⟩
/-- A new row that is written out. -/
theorem Ow.lit (w : World) (cs : Array Value) (zs : List Int) (hcs : cs.toList = zs.map (Value.int k)) (hw : Wf k zs) (hl : zs.length ≤ maxLen) (hn : cs.size = n) :
    Ow E k (w.alloc (.cells cs E)) w.heap.size (w.alloc (.cells cs E)).heap.size (some ⟨w.heap.size, 0, none⟩) n n zs := by
  have hz : cs.size = zs.length := by have := congrArg List.length hcs; simpa using this
  have := World.ownsRow_lit (e := E) (size := 1) (base := w.heap.size) w cs n (Nat.le_refl _) (by omega) (by omega)
  rw [hcs] at this
  exact ⟨this, hw, Nat.le_refl _, fun g o e => by injection e with e; injection e with e _; subst e; simp⟩
end

/-- A slice that came in. -/
theorem Rd.of_row {k : IntKind} {w : World} {A : Option Addr} {len cap : Nat} {zs : List Int} (h : kit.IsRow k w A len cap zs) : ∃ ys, Rd k w 0 w.heap.size A len cap ys := by
  rcases h with ⟨rfl, rfl, rfl, rfl⟩ | ⟨x, rfl, hl, hm, hz, hc, hw⟩
  · exact ⟨[], Rd.nil k w none 0 0 w.heap.size (by unfold maxLen; omega) (Nat.le_refl _)⟩
  · refine ⟨zs.take len, by simp; omega, hl, hm, Nat.le_refl _, Wf.take hw len, fun hn => ?_⟩
    obtain ⟨b, off, rfl, hcell⟩ := ints_at hc (by omega)
    have e0 := hcell 0 (by omega)
    have hb : b < w.heap.size := by
      rcases Nat.lt_or_ge b w.heap.size with h1 | h1
      · exact h1
      · exfalso
        have : w.heap[b]? = none := Array.getElem?_eq_none h1
        simp [World.cell?, this] at e0
    refine ⟨b, off, rfl, by omega, hb, fun i hi => ?_⟩
    rw [hcell i (by omega), List.getD_eq_getElem?_getD, List.getD_eq_getElem?_getD, List.getElem?_take, if_pos hi]

/-- What a function hands back that makes a slice of numbers. -/
def SlPost (E : TypeId) (k : IntKind) (w : World) (zs : List Int) (e : Ending) (w' : World) : Prop :=
  ∃ A n cap, e = .returned (.slice A n cap) ∧ Ow E k w' w.heap.size w'.heap.size A n cap zs ∧ Below w.heap.size w w'

/-- The words of the guide for a source of an append. -/
def Reads (w : World) (B size : Nat) (A : Option Addr) (n : Nat) (xs : List Value) : Prop :=
  xs.length = n * size ∧ (0 < n → ∃ ad, A = some ad ∧ ad.block < B ∧ ∀ j u, xs[j]? = some u → w.cell? (ad.add j) = some u)
theorem Rd.reads {k : IntKind} {w : World} {lo hi n cap : Nat} {A : Option Addr} {zs : List Int} (h : Rd k w lo hi A n cap zs) : Reads w hi 1 A n (zs.map (Value.int k)) := by
  refine ⟨by simpa using h.len, fun hn => ?_⟩
  obtain ⟨b, off, e, h1, h2, h3⟩ := h.2.2.2.2.2 hn
  refine ⟨_, e, h2, fun j u hu => ?_⟩
  have hj : j < n := by
    have := (List.getElem?_eq_some_iff.1 hu).1
    simp at this; have := h.len; omega
  have e2 : (⟨b, off, none⟩ : Addr).add j = ⟨b, off + j, none⟩ := by
    unfold Addr.add; split <;> simp_all
  rw [e2, h3 j hj]
  rw [List.getElem?_map, List.getElem?_eq_getElem (show j < zs.length by rw [h.len]; exact hj)] at hu
  rw [List.getD_eq_getElem?_getD, List.getElem?_eq_getElem (show j < zs.length by rw [h.len]; exact hj)]
  simpa using hu
theorem one_cells (k : IntKind) (zs : List Int) : ∀ u ∈ zs.map (Value.int k), u.oneCell' = true := by
  intro u hu
  obtain ⟨z, _, rfl⟩ := List.mem_map.1 hu
  rfl
end Go.Proofs.Ytmmhleobgpgliaa.sl
end

section
namespace Go.Proofs.Ytmmhleobgpgliaa.harn
open Go.RowKit sl

theorem run_make1 {P : Program} (t e : TypeId) (i : TypeInfo) (z : Value) (ht : P.underlying t = some (.slice e)) (hi : P.info? e = some i) (hz : i.zero = some z) (hs : i.size = 1)
    (n : Nat) (hb8 : i.bytes ≤ 8) (hn : n ≤ 67108864) (w : World) :
    (Instr.makeSlice t (.int .i64 (n : Int)) (.int .i64 (n : Int))).run P w = .ok (.slice (some ⟨w.heap.size, 0, none⟩) n n) (w.alloc (.cells (madeCells z.cells n) e)) := by
  have hb : (i.bytes : Int) * (n : Int) ≤ 281474976710656 := by
    have h : ((i.bytes * n : Nat) : Int) ≤ 281474976710656 := by
      have h1 := Nat.mul_le_mul hb8 hn
      omega
    rwa [Int.natCast_mul] at h
  have hr := run_make (P := P) w t e i z ht hi hz .i64 .i64 n n (by omega) (by omega) hb (by omega)
  simp only [Int.toNat_natCast] at hr
  rw [hs, Nat.mul_one] at hr
  exact hr

theorem u8Info : (Try.prog.info? 5).map (fun i => (i.zero, i.size, i.bytes)) = some (some (.int .u8 0), 1, 1) := by kernel_rfl
theorem intInfo : (Try.prog.info? 3).map (fun i => (i.zero, i.size, i.bytes)) = some (some (.int .i64 0), 1, 8) := by kernel_rfl

theorem madeLt (z : Array Value) (n k : Nat) (h : k < n) : ∃ v, (madeCells z n)[k]? = some v := ⟨_, Array.getElem?_eq_getElem (by rw [size_madeCells]; exact h)⟩
/-- A copy that has come to k. -/
def Part (kd : IntKind) (E : TypeId) (w wr : World) (n k : Nat) (zs : List Int) : Prop :=
  ∃ cs, wr.heap[w.heap.size]? = some (.cells cs E (0, 0)) ∧ cs.size = n ∧ (∀ j, j < k → cs[j]? = some (.int kd (zs.getD j 0))) ∧ Below w.heap.size w wr
theorem Part.start (kd : IntKind) (E : TypeId) (w : World) (n : Nat) (zs : List Int) (z : Array Value) : Part kd E w (w.alloc (.cells (madeCells z n) E)) n 0 zs :=
  ⟨_, heap_alloc_new w _, size_madeCells z n, fun j h => absurd h (by omega), (Below.refl _ _).alloc (Nat.le_refl _) _⟩
theorem Part.cell {kd : IntKind} {E : TypeId} {w wr : World} {n k : Nat} {zs : List Int} (h : Part kd E w wr n k zs) (hk : k < n) : ∃ v, wr.cell? ⟨w.heap.size, k, none⟩ = some v := by
  obtain ⟨cs, h1, h2, _⟩ := h
  exact ⟨cs[k]'(by omega), by simp [World.cell?, h1]⟩
theorem Part.free {kd : IntKind} {E : TypeId} {w wr : World} {n k : Nat} {zs : List Int} (h : Part kd E w wr n k zs) (i : Nat) : wr.frozen? ⟨w.heap.size, i, none⟩ = false := by
  obtain ⟨cs, h1, _⟩ := h
  simp [World.frozen?, h1]
theorem Part.step {kd : IntKind} {E : TypeId} {w wr : World} {n k : Nat} {zs : List Int} (h : Part kd E w wr n k zs) (hk : k < n) : Part kd E w (wr.setCell ⟨w.heap.size, k, none⟩ (.int kd (zs.getD k 0))) n (k + 1) zs := by
  obtain ⟨cs, h1, h2, h3, h4⟩ := h
  refine ⟨cs.setIfInBounds k (.int kd (zs.getD k 0)), ?_, by simpa using h2, fun j hj => ?_, h4.setCell (Nat.le_refl _) _⟩
  · exact heap_setCell_same wr w.heap.size k cs E _ h1
  · rcases Nat.lt_or_ge j k with hlt | hge
    · rw [Array.getElem?_setIfInBounds_ne (by omega)]; exact h3 j hlt
    · have : j = k := by omega
      subst this
      rw [Array.getElem?_setIfInBounds_self_of_lt (by omega)]
theorem Part.done {kd : IntKind} {E : TypeId} {w wr : World} {n : Nat} {zs : List Int} (h : Part kd E w wr n n zs) (hl : zs.length = n) (hw : Wf kd zs) (hm : n ≤ maxLen) :
    SlPost E kd w zs (.returned (.slice (some ⟨w.heap.size, 0, none⟩) n n)) wr := by
  obtain ⟨cs, h1, h2, h3, h4⟩ := h
  have e : cs.toList = zs.map (Value.int kd) := by
    apply List.ext_getElem?
    intro i
    rw [Array.getElem?_toList, List.getElem?_map]
    rcases Nat.lt_or_ge i n with hi | hi
    · rw [h3 i hi, List.getElem?_eq_getElem (show i < zs.length by omega), List.getD_eq_getElem?_getD, List.getElem?_eq_getElem (show i < zs.length by omega)]
      rfl
    · rw [Array.getElem?_eq_none (by omega), List.getElem?_eq_none (by omega)]; rfl
  refine ⟨_, _, _, rfl, ⟨⟨by simpa using hl, Or.inr ⟨_, n, cs, rfl, Nat.le_refl _, h1, Nat.le_refl _, hm, by simpa using h2, ?_⟩⟩, hw, Nat.le_refl _, ?_⟩, h4⟩
  · rw [Nat.mul_one, ← e, List.take_of_length_le (by simp; omega)]
  · intro g o e; injection e with e; injection e with e _; subst e; exact lt_of_block h1
theorem rd_part {kd : IntKind} {E : TypeId} {w wr : World} {n k : Nat} {zs : List Int} {lo hi cap : Nat} {A : Option Addr} (r : Rd kd w lo hi A n cap zs) (h : Part kd E w wr n k zs) : Rd kd wr lo hi A n cap zs := by
  obtain ⟨cs, _, _, _, h4⟩ := h
  exact r.below h4

theorem toByteS (zs : List Int) (lo hi : Nat) (A : Option Addr) (n cap : Nat) (w : World) (h : Rd .u8 w lo hi A n cap zs) (hn : n ≤ 67108864) :
    Calls Try.prog 38 #[.slice A n cap] w (SlPost 5 .u8 w zs) := by
  obtain ⟨i0, hi0, hz0, hz1, hz2⟩ := info_parts u8Info
  have hmk := fun W => run_make1 (P := Try.prog) 22 5 i0 _ Try.underlying22 hi0 hz0 hz1 n (by omega) hn W
  have HR := Lib.hid h
  clear h hz2 hz1 hz0 hi0
  go_enter Try.func38, Try.ntmps38
  go_wp2
  go_loopw [4] (fun i wr => ∃ k : Nat, i = .int .i64 k ∧ k ≤ n ∧ Part .u8 5 w wr n k zs) (fun i _ => n - (intOf i).toNat)
  case atStart => exact ⟨0, rfl, by omega, Part.start _ _ _ _ _ _⟩
  case round =>
    obtain ⟨k, rfl, hk, hp⟩ := hrel
    have HP := Lib.hid hp
    clear hp
    by_cases hlt : k < n
    · obtain ⟨b, off, rfl, h1, h2, hc⟩ := (rd_part HR.out HP.out).at_ hlt
      obtain ⟨v, hv⟩ := HP.out.cell hlt
      have hf := HP.out.free k
      have hlt2 : (k : Int) < n := by omega
      go_wp2
      go_roundw
      case rel => exact ⟨k + 1, by go_num, by omega, HP.out.step hlt⟩
      case measure => simp [intOf]; omega
    · have hlt2 : ¬ (k : Int) < n := by omega
      go_wp2
      go_ret
      obtain rfl : k = n := by omega
      exact HP.out.done HR.out.len HR.out.wf (by unfold maxLen; omega)

/-- The comparison says whether the two read alike. -/
def EqPost (zs ys : List Int) (w : World) (e : Ending) (w' : World) : Prop := e = .returned (.bool (decide (zs = ys))) ∧ Below w.heap.size w w'
theorem below_drews (w : World) (m : Nat) : Below w.heap.size w (w.drewN m) := ⟨rfl, rfl, rfl, Nat.le_refl _, fun _ _ => rfl⟩

theorem ne_at {zs ys : List Int} {k : Nat} (h : ¬ zs.getD k 0 = ys.getD k 0) : ¬ zs = ys := fun e => h (by rw [e])
theorem eq_all {zs ys : List Int} {n : Nat} (h1 : zs.length = n) (h2 : ys.length = n) (h : ∀ j, j < n → zs.getD j 0 = ys.getD j 0) : zs = ys := by
  apply List.ext_getElem (by omega)
  intro i hi hi2
  have := h i (by omega)
  simpa [List.getD_eq_getElem?_getD, hi, hi2] using this
theorem eq_true {zs ys : List Int} (h : zs = ys) : decide (zs = ys) = true := decide_eq_true h
theorem eq_false {zs ys : List Int} (h : ¬ zs = ys) : decide (zs = ys) = false := decide_eq_false h

theorem eqByteS (zs ys : List Int) (lo hi lo2 hi2 : Nat) (A A2 : Option Addr) (n cap n2 cap2 : Nat) (w : World) (h : Rd .u8 w lo hi A n cap zs) (h2 : Rd .u8 w lo2 hi2 A2 n2 cap2 ys) :
    Calls Try.prog 40 #[.slice A n cap, .slice A2 n2 cap2] w (EqPost zs ys w) := by
  have hb := h.cap_
  have hb2 := h2.cap_
  have HR := Lib.hid h
  have HS := Lib.hid h2
  clear h h2
  by_cases hnn : n = n2
  · subst hnn
    go_enter Try.func40, Try.ntmps40
    go_wp2
    go_loopw [5] (fun i wr => ∃ k m : Nat, i = .int .i64 k ∧ k ≤ n ∧ wr = w.drewN m ∧ ∀ j, j < k → zs.getD j 0 = ys.getD j 0) (fun i _ => n - (intOf i).toNat)
    case atStart => exact ⟨0, 0, rfl, by omega, rfl, fun j h => absurd h (by omega)⟩
    case round =>
      obtain ⟨k, m, rfl, hk, rfl, hall⟩ := hrel
      have HA := Lib.hid hall
      clear hall
      by_cases hlt : k < n
      · obtain ⟨b, off, rfl, h1, h2, hc⟩ := HR.out.at_ hlt
        obtain ⟨b2, off2, rfl, h3, h4, hc2⟩ := HS.out.at_ hlt
        obtain ⟨x, hx⟩ : ∃ x, zs.getD k 0 = x := ⟨_, rfl⟩
        obtain ⟨y, hy⟩ : ∃ y, ys.getD k 0 = y := ⟨_, rfl⟩
        rw [hx] at hc
        rw [hy] at hc2
        have HX := Lib.hid (And.intro hx hy)
        clear hx hy
        have hlt2 : (k : Int) < n := by omega
        by_cases hxy : x = y
        · subst hxy
          go_wp2
          go_quiet (fail)
          go_wp2
          go_roundw
          case rel =>
            refine ⟨k + 1, _, by go_num, by omega, rfl, fun j hj => ?_⟩
            rcases Nat.lt_or_ge j k with hjk | hjk
            · exact HA.out j hjk
            · obtain rfl : j = k := by omega
              rw [HX.out.1, HX.out.2]
          case measure => simp [intOf]; omega
        · have hne : (x == y) = false := by simpa using hxy
          go_wp2
          go_quiet (fail)
          go_wp2
          go_ret
          refine ⟨?_, ⟨rfl, rfl, rfl, Nat.le_refl _, fun _ _ => rfl⟩⟩
          rw [eq_false (ne_at (k := k) (by rw [HX.out.1, HX.out.2]; exact hxy))]; rfl
      · have hlt2 : ¬ (k : Int) < n := by omega
        obtain rfl : k = n := by omega
        go_wp2
        go_ret
        refine ⟨?_, ⟨rfl, rfl, rfl, Nat.le_refl _, fun _ _ => rfl⟩⟩
        rw [eq_true (eq_all HR.out.len HS.out.len HA.out)]; rfl
  · have hne : ¬ (n : Int) = n2 := by omega
    have HN : Hid (¬ zs = ys) := by
      intro e
      have h1 := HR.out.len
      have h2 := HS.out.len
      rw [e] at h1
      omega
    go_enter Try.func40, Try.ntmps40
    go_wp2
    go_ret
    exact ⟨by rw [eq_false HN.out]; rfl, Below.refl _ _⟩

theorem eqByteS_yes (zs : List Int) (lo hi lo2 hi2 : Nat) (A A2 : Option Addr) (n cap n2 cap2 : Nat) (w : World) (h : Rd .u8 w lo hi A n cap zs) (h2 : Rd .u8 w lo2 hi2 A2 n2 cap2 zs) :
    Calls Try.prog 40 #[.slice A n cap, .slice A2 n2 cap2] w fun e w' => e = .returned (.bool true) ∧ Below w.heap.size w w' :=
  (eqByteS zs zs lo hi lo2 hi2 A A2 n cap n2 cap2 w h h2).mono fun e w' ⟨he, hb⟩ => ⟨by rw [he, eq_true rfl], hb⟩

/-- The marks: k, k + 1, .. as numbers of the kind. -/
def marks (kd : IntKind) (k : Int) (n : Nat) : List Int := (List.range n).map fun (j : Nat) => kd.wrap (k + j)
theorem marks_len (kd : IntKind) (k : Int) (n : Nat) : (marks kd k n).length = n := by simp [marks]
theorem marks_at (kd : IntKind) (k : Int) {n j : Nat} (h : j < n) : (marks kd k n).getD j 0 = kd.wrap (k + j) := by
  simp [marks, List.getD_eq_getElem?_getD, h]
/-- A marking that has come to i. -/
def Marked (kd : IntKind) (E : TypeId) (w wr : World) (lo hi : Nat) (A : Option Addr) (n cap : Nat) (k : Int) (i : Nat) : Prop :=
  ∃ ys, Ow E kd wr lo hi A n cap ys ∧ (∀ j, j < i → ys.getD j 0 = kd.wrap (k + j)) ∧ Tch lo hi w wr
theorem Marked.step {kd : IntKind} {E : TypeId} {w wr : World} {lo hi n cap : Nat} {k : Int} {i b : Nat} (h : Marked kd E w wr lo hi (some ⟨b, 0, none⟩) n cap k i) (hi' : i < n)
    (hw : (Lit.int kd (kd.wrap (k + i))).wf = true) : Marked kd E w (wr.setCell ⟨b, i, none⟩ (.int kd (kd.wrap (k + i)))) lo hi (some ⟨b, 0, none⟩) n cap k (i + 1) := by
  obtain ⟨ys, h1, h2, h3⟩ := h
  have hl := h1.len
  have hs := h1.1.stored i (.int kd (kd.wrap (k + i)))
  have e : (ys.map (Value.int kd)).set i (.int kd (kd.wrap (k + i))) = (ys.set i (kd.wrap (k + i))).map (Value.int kd) := by rw [List.map_set]
  have hb : lo ≤ b ∧ b < hi := by
    rcases h1.form with ⟨h, _⟩ | ⟨g, cur, h, g1, g2, _⟩
    · cases h
    · injection h with h; injection h with h _; omega
  refine ⟨ys.set i (kd.wrap (k + i)), ⟨?_, ?_, ?_, h1.2.2.2⟩, fun j hj => ?_, ?_⟩
  · rw [← e]; exact hs.1
  · intro z hz
    rcases List.mem_or_eq_of_mem_set hz with hz | hz
    · exact h1.wf z hz
    · rw [hz]; exact hw
  · have := h1.hi_; simpa [World.setCell] using this
  · rw [List.getD_eq_getElem?_getD]
    by_cases hij : j = i
    · subst hij
      rw [List.getElem?_set_self (by omega)]; rfl
    · rw [List.getElem?_set_ne (by omega), ← List.getD_eq_getElem?_getD]
      exact h2 j (by omega)
  · refine ⟨h3.os, h3.tape, h3.output, by simpa [World.setCell] using h3.size, fun q hq hd => ?_⟩
    rw [Below.heap_setCell _ _ _ _ (by show q ≠ b; omega)]
    exact h3.block q hq hd
theorem Marked.start {kd : IntKind} {E : TypeId} {w : World} {lo hi n cap : Nat} {A : Option Addr} {zs : List Int} (h : Ow E kd w lo hi A n cap zs) (k : Int) : Marked kd E w w lo hi A n cap k 0 :=
  ⟨zs, h, fun j hj => absurd hj (by omega), Tch.refl _ _ _⟩
theorem Marked.done {kd : IntKind} {E : TypeId} {w wr : World} {lo hi n cap : Nat} {A : Option Addr} {k : Int} (h : Marked kd E w wr lo hi A n cap k n) : Ow E kd wr lo hi A n cap (marks kd k n) ∧ Tch lo hi w wr := by
  obtain ⟨ys, h1, h2, h3⟩ := h
  have : ys = marks kd k n := eq_all h1.len (marks_len kd k n) fun j hj => by rw [h2 j hj, marks_at kd k hj]
  rw [← this]
  exact ⟨h1, h3⟩
def MarkPost (E : TypeId) (kd : IntKind) (w : World) (lo hi : Nat) (A : Option Addr) (n cap : Nat) (k : Int) (e : Ending) (w' : World) : Prop :=
  e = .returned (.int .i64 (k + n)) ∧ Ow E kd w' lo hi A n cap (marks kd k n) ∧ Tch lo hi w w'
theorem wf_u8_wrap (x : Int) : (Lit.int .u8 (IntKind.u8.wrap x)).wf = true := wf_wrap .u8 x
theorem ret_num {a b : Int} (h : a = b) : Ending.returned (.int .i64 a) = .returned (.int .i64 b) := by rw [h]

theorem markByteS (zs : List Int) (lo hi : Nat) (A : Option Addr) (n cap : Nat) (k : Int) (w : World) (h : Ow 5 .u8 w lo hi A n cap zs) (hk0 : 0 ≤ k) (hk : k ≤ 1099511627776) (hn : n ≤ 67108864) :
    Calls Try.prog 41 #[.slice A n cap, .int .i64 k] w (MarkPost 5 .u8 w lo hi A n cap k) := by
  have HR := Lib.hid h
  clear h
  go_enter Try.func41, Try.ntmps41
  go_wp2
  go_loopw [1, 5] (fun q i wr => ∃ j : Nat, i = .int .i64 j ∧ q = .int .i64 (k + j) ∧ j ≤ n ∧ Marked .u8 5 w wr lo hi A n cap k j) (fun _ i _ => n - (intOf i).toNat)
  case atStart => exact ⟨0, rfl, by simp, by omega, Marked.start HR.out k⟩
  case round =>
    obtain ⟨j, rfl, rfl, hj, hp⟩ := hrel
    have HP := Lib.hid hp
    clear hp
    by_cases hlt : j < n
    · obtain ⟨b, rfl⟩ : ∃ b, A = some ⟨b, 0, none⟩ := by
        obtain ⟨ys, h1, _⟩ := HP.out
        rcases h1.form with ⟨_, h0, _⟩ | ⟨g, cur, h, _⟩
        · omega
        · exact ⟨g, h⟩
      obtain ⟨v, hv⟩ : ∃ v, wr.cell? ⟨b, j, none⟩ = some v := by
        obtain ⟨ys, h1, _⟩ := HP.out
        obtain ⟨b', off, e, _, _, hc⟩ := h1.rd.at_ hlt
        injection e with e; injection e with e1 e2 e3
        subst e1 e2
        rw [Nat.zero_add] at hc
        exact ⟨_, hc⟩
      have hf : wr.frozen? ⟨b, j, none⟩ = false := by
        obtain ⟨ys, h1, _⟩ := HP.out
        exact h1.free rfl j
      have hlt2 : (j : Int) < n := by omega
      go_wp2
      go_roundw
      case rel => exact ⟨j + 1, by go_num, by go_num, by omega, HP.out.step hlt (wf_u8_wrap _)⟩
      case measure => simp [intOf]; omega
    · have hlt2 : ¬ (j : Int) < n := by omega
      obtain rfl : j = n := by omega
      go_wp2
      go_ret
      exact ⟨rfl, HP.out.done⟩

theorem heldByteS (lo hi : Nat) (A : Option Addr) (n cap : Nat) (k : Int) (w : World) (h : Rd .u8 w lo hi A n cap (marks .u8 k n)) (hk0 : 0 ≤ k) (hk : k ≤ 1099511627776) (hn : n ≤ 67108864) :
    Calls Try.prog 85 #[.slice A n cap, .int .i64 k] w fun e w' => e = .returned (.int .i64 (k + n)) ∧ w = w' := by
  have HR := Lib.hid h
  clear h
  go_enter Try.func85, Try.ntmps85
  go_wp2
  go_loop [1, 5] (fun q i => ∃ j : Nat, i = .int .i64 j ∧ q = .int .i64 (k + j) ∧ j ≤ n) (fun _ i => n - (intOf i).toNat)
  case atStart => exact ⟨0, rfl, by simp, by omega⟩
  case round =>
    obtain ⟨j, rfl, rfl, hj⟩ := hrel
    by_cases hlt : j < n
    · obtain ⟨b, off, rfl, h1, h2, hc⟩ := HR.out.at_ hlt
      rw [marks_at .u8 k hlt] at hc
      have hlt2 : (j : Int) < n := by omega
      go_wp2
      go_round
      case rel => exact ⟨j + 1, by go_num, by go_num, by omega⟩
      case measure => simp [intOf]; omega
    · have hlt2 : ¬ (j : Int) < n := by omega
      obtain rfl : j = n := by omega
      go_wp2
      go_ret
      exact ⟨rfl, rfl⟩

theorem eqIntS (zs ys : List Int) (lo hi lo2 hi2 : Nat) (A A2 : Option Addr) (n cap n2 cap2 : Nat) (w : World) (h : Rd .i64 w lo hi A n cap zs) (h2 : Rd .i64 w lo2 hi2 A2 n2 cap2 ys) :
    Calls Try.prog 48 #[.slice A n cap, .slice A2 n2 cap2] w (EqPost zs ys w) := by
  have hb := h.cap_
  have hb2 := h2.cap_
  have HR := Lib.hid h
  have HS := Lib.hid h2
  clear h h2
  by_cases hnn : n = n2
  · subst hnn
    go_enter Try.func48, Try.ntmps48
    go_wp2
    go_loopw [5] (fun i wr => ∃ k m : Nat, i = .int .i64 k ∧ k ≤ n ∧ wr = w.drewN m ∧ ∀ j, j < k → zs.getD j 0 = ys.getD j 0) (fun i _ => n - (intOf i).toNat)
    case atStart => exact ⟨0, 0, rfl, by omega, rfl, fun j h => absurd h (by omega)⟩
    case round =>
      obtain ⟨k, m, rfl, hk, rfl, hall⟩ := hrel
      have HA := Lib.hid hall
      clear hall
      by_cases hlt : k < n
      · obtain ⟨b, off, rfl, h1, h2, hc⟩ := HR.out.at_ hlt
        obtain ⟨b2, off2, rfl, h3, h4, hc2⟩ := HS.out.at_ hlt
        obtain ⟨x, hx⟩ : ∃ x, zs.getD k 0 = x := ⟨_, rfl⟩
        obtain ⟨y, hy⟩ : ∃ y, ys.getD k 0 = y := ⟨_, rfl⟩
        rw [hx] at hc
        rw [hy] at hc2
        have HX := Lib.hid (And.intro hx hy)
        clear hx hy
        have hlt2 : (k : Int) < n := by omega
        by_cases hxy : x = y
        · subst hxy
          go_wp2
          go_quiet (fail)
          go_wp2
          go_roundw
          case rel =>
            refine ⟨k + 1, _, by go_num, by omega, rfl, fun j hj => ?_⟩
            rcases Nat.lt_or_ge j k with hjk | hjk
            · exact HA.out j hjk
            · obtain rfl : j = k := by omega
              rw [HX.out.1, HX.out.2]
          case measure => simp [intOf]; omega
        · have hne : (x == y) = false := by simpa using hxy
          go_wp2
          go_quiet (fail)
          go_wp2
          go_ret
          refine ⟨?_, ⟨rfl, rfl, rfl, Nat.le_refl _, fun _ _ => rfl⟩⟩
          rw [eq_false (ne_at (k := k) (by rw [HX.out.1, HX.out.2]; exact hxy))]; rfl
      · have hlt2 : ¬ (k : Int) < n := by omega
        obtain rfl : k = n := by omega
        go_wp2
        go_ret
        refine ⟨?_, ⟨rfl, rfl, rfl, Nat.le_refl _, fun _ _ => rfl⟩⟩
        rw [eq_true (eq_all HR.out.len HS.out.len HA.out)]; rfl
  · have hne : ¬ (n : Int) = n2 := by omega
    have HN : Hid (¬ zs = ys) := by
      intro e
      have h1 := HR.out.len
      have h2 := HS.out.len
      rw [e] at h1
      omega
    go_enter Try.func48, Try.ntmps48
    go_wp2
    go_ret
    exact ⟨by rw [eq_false HN.out]; rfl, Below.refl _ _⟩


theorem eqIntS_yes (zs : List Int) (lo hi lo2 hi2 : Nat) (A A2 : Option Addr) (n cap n2 cap2 : Nat) (w : World) (h : Rd .i64 w lo hi A n cap zs) (h2 : Rd .i64 w lo2 hi2 A2 n2 cap2 zs) :
    Calls Try.prog 48 #[.slice A n cap, .slice A2 n2 cap2] w fun e w' => e = .returned (.bool true) ∧ Below w.heap.size w w' :=
  (eqIntS zs zs lo hi lo2 hi2 A A2 n cap n2 cap2 w h h2).mono fun e w' ⟨he, hb⟩ => ⟨by rw [he, eq_true rfl], hb⟩


theorem wf_i64_wrap (x : Int) : (Lit.int .i64 (IntKind.i64.wrap x)).wf = true := wf_wrap .i64 x

theorem markIntS (zs : List Int) (lo hi : Nat) (A : Option Addr) (n cap : Nat) (k : Int) (w : World) (h : Ow 3 .i64 w lo hi A n cap zs) (hk0 : 0 ≤ k) (hk : k ≤ 1099511627776) (hn : n ≤ 67108864) :
    Calls Try.prog 49 #[.slice A n cap, .int .i64 k] w (MarkPost 3 .i64 w lo hi A n cap k) := by
  have HR := Lib.hid h
  clear h
  go_enter Try.func49, Try.ntmps49
  go_wp2
  go_loopw [1, 5] (fun q i wr => ∃ j : Nat, i = .int .i64 j ∧ q = .int .i64 (k + j) ∧ j ≤ n ∧ Marked .i64 3 w wr lo hi A n cap k j) (fun _ i _ => n - (intOf i).toNat)
  case atStart => exact ⟨0, rfl, by simp, by omega, Marked.start HR.out k⟩
  case round =>
    obtain ⟨j, rfl, rfl, hj, hp⟩ := hrel
    have HP := Lib.hid hp
    clear hp
    by_cases hlt : j < n
    · obtain ⟨b, rfl⟩ : ∃ b, A = some ⟨b, 0, none⟩ := by
        obtain ⟨ys, h1, _⟩ := HP.out
        rcases h1.form with ⟨_, h0, _⟩ | ⟨g, cur, h, _⟩
        · omega
        · exact ⟨g, h⟩
      obtain ⟨v, hv⟩ : ∃ v, wr.cell? ⟨b, j, none⟩ = some v := by
        obtain ⟨ys, h1, _⟩ := HP.out
        obtain ⟨b', off, e, _, _, hc⟩ := h1.rd.at_ hlt
        injection e with e; injection e with e1 e2 e3
        subst e1 e2
        rw [Nat.zero_add] at hc
        exact ⟨_, hc⟩
      have hf : wr.frozen? ⟨b, j, none⟩ = false := by
        obtain ⟨ys, h1, _⟩ := HP.out
        exact h1.free rfl j
      have hlt2 : (j : Int) < n := by omega
      go_wp2
      go_roundw
      case rel => exact ⟨j + 1, by go_num, by go_num, by omega, by have hs := HP.out.step hlt (wf_i64_wrap _); rw [IntWalk.i64_in _ (by omega)] at hs; exact hs⟩
      case measure => simp [intOf]; omega
    · have hlt2 : ¬ (j : Int) < n := by omega
      obtain rfl : j = n := by omega
      go_wp2
      go_ret
      exact ⟨rfl, HP.out.done⟩


theorem heldIntS (lo hi : Nat) (A : Option Addr) (n cap : Nat) (k : Int) (w : World) (h : Rd .i64 w lo hi A n cap (marks .i64 k n)) (hk0 : 0 ≤ k) (hk : k ≤ 1099511627776) (hn : n ≤ 67108864) :
    Calls Try.prog 50 #[.slice A n cap, .int .i64 k] w fun e w' => e = .returned (.int .i64 (k + n)) ∧ w = w' := by
  have HR := Lib.hid h
  clear h
  go_enter Try.func50, Try.ntmps50
  go_wp2
  go_loop [1, 5] (fun q i => ∃ j : Nat, i = .int .i64 j ∧ q = .int .i64 (k + j) ∧ j ≤ n) (fun _ i => n - (intOf i).toNat)
  case atStart => exact ⟨0, rfl, by simp, by omega⟩
  case round =>
    obtain ⟨j, rfl, rfl, hj⟩ := hrel
    by_cases hlt : j < n
    · obtain ⟨b, off, rfl, h1, h2, hc⟩ := HR.out.at_ hlt
      rw [marks_at .i64 k hlt] at hc
      have hlt2 : (j : Int) < n := by omega
      go_wp2
      go_round
      case rel => exact ⟨j + 1, by go_num, by go_num, by omega⟩
      case measure => simp [intOf]; omega
    · have hlt2 : ¬ (j : Int) < n := by omega
      obtain rfl : j = n := by omega
      go_wp2
      go_ret
      exact ⟨rfl, rfl⟩
end Go.Proofs.Ytmmhleobgpgliaa.harn
end

section
namespace Go.Proofs.Ytmmhleobgpgliaa.lawAt
open Go.RowKit sl harn
set_option linter.unusedVariables false

def atv (zs : List Int) (len k : Nat) : Int := if k < len then zs.getD k 0 else ((k : Int) * 31 + (len : Int) * 7) % 256
theorem atv_in {a : Option Addr} {len cap lo hi : Nat} {zs : List Int} {w : World} (h : Rd .u8 w lo hi a len cap zs) (k : Nat) : 0 ≤ atv zs len k ∧ atv zs len k ≤ 255 := by
  unfold atv
  split
  · rename_i hk
    have h1 := h.wf.getD (i := k) (by have := h.len; omega)
    have := bounds_u8 h1; omega
  · have h1 := Int.emod_nonneg ((k : Int) * 31 + (len : Int) * 7) (show (256 : Int) ≠ 0 by omega)
    have h2 := Int.emod_lt_of_pos ((k : Int) * 31 + (len : Int) * 7) (show (0 : Int) < 256 by omega)
    omega
theorem at_v (k : Nat) (i : Int) (hi : i = k) (h1 : k ≤ 1000) (v : Int) (a : Option Addr) (len cap lo hi' : Nat) (zs : List Int) (w : World) (h : Rd .u8 w lo hi' a len cap zs) (hl : len ≤ 1048576) (hv : atv zs len k = v) :
    Calls Try.prog 13 #[.slice a len cap, .int .i64 i] w fun e w' => e = .returned (.int .i64 v) ∧ w = w' := by
  subst hi
  have HR := Lib.hid h
  clear h
  by_cases hk : k < len
  · have hv' : zs.getD k 0 = v := by rw [← hv, atv, if_pos hk]
    obtain ⟨b, off, rfl, _, _, hc⟩ := HR.out.at_ hk
    have hx01 : 0 ≤ v ∧ v ≤ 255 := by rw [← hv]; exact atv_in HR.out k
    obtain ⟨hx0, hx1⟩ := hx01
    rw [hv'] at hc
    have hk2 : (k : Int) < len := by omega
    clear hv hv'
    go_enter Try.func13, Try.ntmps13
    go_wp2
    go_ret
    exact ⟨rfl, rfl⟩
  · have hv' : ((k : Int) * 31 + (len : Int) * 7) % 256 = v := by rw [← hv, atv, if_neg hk]
    have hk2 : ¬ (k : Int) < len := by omega
    clear hv
    go_enter Try.func13, Try.ntmps13
    go_wp2
    go_ret
    exact ⟨rfl, rfl⟩
end Go.Proofs.Ytmmhleobgpgliaa.lawAt
end

section
namespace Go.Proofs.Ytmmhleobgpgliaa.sl
open Go.RowKit

section
variable {k : IntKind} {w w' : World} {lo hi n cap : Nat} {A : Option Addr} {zs : List Int} {E : TypeId}
theorem Rd.one (k : IntKind) (E : TypeId) (w : World) (x : Int) (hx : (Lit.int k x).wf = true) : Rd k (w.alloc (.cells #[.int k x] E)) w.heap.size (w.heap.size + 1) (some ⟨w.heap.size, 0, none⟩) 1 1 [x] :=
  ⟨rfl, by omega, by unfold maxLen; omega, by simp, Wf.one hx, fun _ => ⟨_, 0, rfl, Nat.le_refl _, by omega, fun i hi => by
    obtain rfl : i = 0 := by omega
    simp⟩⟩
theorem Ow.alloc (h : Ow E k w lo hi A n cap zs) (o : Obj) : Ow E k (w.alloc o) lo hi A n cap zs := h.below ((Below.refl _ _).alloc (Nat.le_refl _) _)
theorem Rd.alloc (h : Rd k w lo hi A n cap zs) (o : Obj) : Rd k (w.alloc o) lo hi A n cap zs := h.below ((Below.refl _ _).alloc (Nat.le_refl _) _)
theorem Ow.up (h : Ow E k w lo hi A n cap zs) : Ow E k w lo w.heap.size A n cap zs := ⟨h.1, h.2.1, Nat.le_refl _, fun g o e => by have := h.2.2.2 g o e; have := h.hi_; omega⟩
theorem Ow.down {lo2 : Nat} (h : Ow E k w lo hi A n cap zs) (hl : lo2 ≤ lo) : Ow E k w lo2 hi A n cap zs := by
  obtain ⟨⟨h1, h2⟩, h3, h4, h5⟩ := h
  refine ⟨⟨h1, ?_⟩, h3, h4, h5⟩
  rcases h2 with h2 | ⟨g, c, cur, e, g1, g2⟩
  · exact Or.inl h2
  · exact Or.inr ⟨g, c, cur, e, by omega, g2⟩
theorem Ow.nil_ (E : TypeId) (k : IntKind) (w : World) (lo hi : Nat) (hh : hi ≤ w.heap.size) : Ow E k w lo hi none 0 0 [] :=
  ⟨⟨rfl, Or.inl ⟨rfl, rfl⟩⟩, Wf.nil k, hh, fun _ _ e => by cases e⟩
theorem Ow.empty (E : TypeId) (k : IntKind) (w : World) : Ow E k (w.alloc (.cells #[] E)) w.heap.size (w.heap.size + 1) (some ⟨w.heap.size, 0, none⟩) 0 0 [] := by
  have := Ow.lit (E := E) (k := k) (n := 0) w #[] [] rfl (Wf.nil k) (by unfold maxLen; simp) rfl
  simpa using this
end

theorem app {P : Program} (t ty E : TypeId) (i : TypeInfo) (z : Value) (k : IntKind) (h1 : P.underlying t = some (.slice E)) (h2 : P.info? E = some i) (h3 : i.zero = some z) (h4 : i.size = 1) (h5 : i.bytes ≤ 8) (h6 : z.cells.size = 1)
    {w : World} {lo hi lo2 hi2 n cap m c : Nat} {A B : Option Addr} {zs ys : List Int} (ho : Ow E k w lo hi A n cap zs) (hr : Rd k w lo2 hi2 B m c ys) (hn : n + m ≤ 1073741824) (hlo : lo ≤ w.heap.size) :
    ∃ A' cap' w', (Builtin.append_ #[t, t] ty #[.slice A n cap, .slice B m c]).run P w = .ok (.slice A' (n + m) cap') w' ∧ Ow E k w' lo w'.heap.size A' (n + m) cap' (zs ++ ys) ∧ Below lo w w' := by
  have hwf : Wf k (zs ++ ys) := ho.wf.append hr.wf
  cases B with
  | none =>
    have hm : m = 0 := by
      rcases Nat.eq_zero_or_pos m with h | h
      · exact h
      · obtain ⟨b, off, e, _⟩ := hr.at_ h; cases e
    subst hm
    have hy : ys = [] := List.eq_nil_of_length_eq_zero hr.len
    subst hy
    refine ⟨A, cap, w, ?_, by simpa using ho.up, Below.refl _ _⟩
    rcases ho.form with ⟨rfl, rfl, rfl⟩ | ⟨g, cur, rfl, _, _, _, hnc, _⟩
    · simp [Builtin.append_, run_underlying h1, sizeOf, typeInfo, h2, Builtin.lenOf, Builtin.firstCells]
    · simp [Builtin.append_, run_underlying h1, sizeOf, typeInfo, h2, Builtin.lenOf, Builtin.firstCells, hnc, storeCells]
  | some ad =>
    have hcells : ∀ j u, (ys.map (Value.int k))[j]? = some u → w.cell? (ad.add j) = some u := by
      intro j u hu
      have hj : j < ys.length := by
        have := (List.getElem?_eq_some_iff.1 hu).1
        simpa using this
      have hl := hr.len
      obtain ⟨b, off, e, _, _, hc⟩ := hr.at_ (i := j) (by omega)
      injection e with e
      subst e
      have e2 : (⟨b, off, none⟩ : Addr).add j = ⟨b, off + j, none⟩ := by unfold Addr.add; split <;> simp_all
      rw [e2, hc]
      rw [List.getElem?_map, List.getElem?_eq_getElem hj] at hu
      rw [List.getD_eq_getElem?_getD, List.getElem?_eq_getElem hj]
      simpa using hu
    have hb8 : (n + m) * i.bytes ≤ 140737488355328 := by
      have := Nat.mul_le_mul hn h5
      omega
    obtain ⟨v', w', hrun, g1, g2, _, g3⟩ := run_append_own_at (P := P) w lo t ty E i z 1 i.bytes h1 h2 h3 h4 rfl h6 (by omega) _ n _ ho.1 ad m c (ys.map (Value.int k)) (by simpa using hr.len) hcells (one_cells k ys) (by unfold maxLen; omega) hb8 hlo
    rw [← List.map_append] at g1
    obtain ⟨A', cap', rfl, hO⟩ := Ow.of_own g1 hwf
    refine ⟨A', cap', w', hrun, hO, (Below.refl _ _).grown g2 hlo fun q hq => ?_⟩
    rcases ho.form with ⟨rfl, _⟩ | ⟨g, cur, rfl, hg, _⟩
    · simp [Value.ownBlock] at hq
    · simp [Value.ownBlock] at hq; omega

theorem wpList_app {P : Program} (w : World) {ops : Array Oper} {rest : List Oper} {o : Oper} {a : Act} {Q : Exit → Act → World → Prop} (hg : o.guard = none) (s x : Operand) (t : TypeId)
    (hop : o.op = .call { callee := .builtin .append, args := #[s, x], argTypes := #[t, t] })
    (E : TypeId) (i : TypeInfo) (z : Value) (k : IntKind) (h1 : P.underlying t = some (.slice E)) (h2 : P.info? E = some i) (h3 : i.zero = some z) (h4 : i.size = 1) (h5 : i.bytes ≤ 8) (h6 : z.cells.size = 1)
    {lo hi lo2 hi2 n cap m c : Nat} {A B : Option Addr} {zs ys : List Int} (hs : a.eval s = .slice A n cap) (hx : a.eval x = .slice B m c) (ho : Ow E k w lo hi A n cap zs) (hr : Rd k w lo2 hi2 B m c ys) (hn : n + m ≤ 1073741824) (hlo : lo ≤ w.heap.size)
    (hK : ∀ A' cap' w', Ow E k w' lo w'.heap.size A' (n + m) cap' (zs ++ ys) → Below lo w w' → wpList P ops Q rest (a.put o.dst (.slice A' (n + m) cap')) w') : wpList P ops Q (o :: rest) a w := by
  refine wpList_plain hg fun K hK' => ?_
  obtain ⟨A', cap', w', hrun, g1, g2⟩ := app (P := P) t o.type E i z k h1 h2 h3 h4 h5 h6 ho hr hn hlo
  unfold Oper.wp execOp
  simp only [hop, resolve, invoke, builtin, Sem.run_bind, Sem.run_pure, Result.andThen_ok, List.map_toArray, List.map_cons, List.map_nil, hs, hx, hrun]
  exact hK' _ _ (hK A' cap' w' g1 g2)
/-- The same at an operation under a guard that says yes. -/
theorem wpList_app_want {P : Program} (w : World) {ops : Array Oper} {rest : List Oper} {o : Oper} {a : Act} {Q : Exit → Act → World → Prop} (hg : Region.wanted o (yielded ops a.tmps) = true) (s x : Operand) (t : TypeId)
    (hop : o.op = .call { callee := .builtin .append, args := #[s, x], argTypes := #[t, t] })
    (E : TypeId) (i : TypeInfo) (z : Value) (k : IntKind) (h1 : P.underlying t = some (.slice E)) (h2 : P.info? E = some i) (h3 : i.zero = some z) (h4 : i.size = 1) (h5 : i.bytes ≤ 8) (h6 : z.cells.size = 1)
    {lo hi lo2 hi2 n cap m c : Nat} {A B : Option Addr} {zs ys : List Int} (hs : a.eval s = .slice A n cap) (hx : a.eval x = .slice B m c) (ho : Ow E k w lo hi A n cap zs) (hr : Rd k w lo2 hi2 B m c ys) (hn : n + m ≤ 1073741824) (hlo : lo ≤ w.heap.size)
    (hK : ∀ A' cap' w', Ow E k w' lo w'.heap.size A' (n + m) cap' (zs ++ ys) → Below lo w w' → wpList P ops Q rest (a.put o.dst (.slice A' (n + m) cap')) w') : wpList P ops Q (o :: rest) a w := by
  refine Go.BigFrame.wpList_want hg fun K hK' => ?_
  obtain ⟨A', cap', w', hrun, g1, g2⟩ := app (P := P) t o.type E i z k h1 h2 h3 h4 h5 h6 ho hr hn hlo
  unfold Oper.wp execOp
  simp only [hop, resolve, invoke, builtin, Sem.run_bind, Sem.run_pure, Result.andThen_ok, List.map_toArray, List.map_cons, List.map_nil, hs, hx, hrun]
  exact hK' _ _ (hK A' cap' w' g1 g2)
end Go.Proofs.Ytmmhleobgpgliaa.sl
end

section
namespace Go.Proofs.Ytmmhleobgpgliaa.own
open Go.RowKit sl harn

section
variable {E : TypeId} {k : IntKind} {w : World} {lo hi n cap m : Nat} {A : Option Addr} {zs : List Int}
theorem ow_drewN (h : Ow E k w lo hi A n cap zs) : Ow E k (w.drewN m) lo hi A n cap zs := h.same (Nat.le_refl _) fun _ _ _ => rfl
theorem ow_drew (h : Ow E k w lo hi A n cap zs) : Ow E k w.drew lo hi A n cap zs := h.same (Nat.le_refl _) fun _ _ _ => rfl
theorem below_drewN {B m : Nat} {a w : World} (h : Below B a w) : Below B a (w.drewN m) := h.trans ⟨rfl, rfl, rfl, Nat.le_refl _, fun _ _ => rfl⟩
theorem below_drew {B : Nat} {a w : World} (h : Below B a w) : Below B a w.drew := h.trans ⟨rfl, rfl, rfl, Nat.le_refl _, fun _ _ => rfl⟩
theorem rd_drew (h : Rd k w lo hi A n cap zs) : Rd k w.drew lo hi A n cap zs := h.same (Nat.le_refl _) fun _ _ _ => rfl
theorem rd_drewN (h : Rd k w lo hi A n cap zs) : Rd k (w.drewN m) lo hi A n cap zs := h.same (Nat.le_refl _) fun _ _ _ => rfl
theorem own_some (h : Ow E k w lo hi A n cap zs) (hn : 0 < n) : ∃ b, A = some ⟨b, 0, none⟩ ∧ lo ≤ b := by
  rcases h.form with ⟨_, h0, _⟩ | ⟨g, cur, h, g1, _⟩
  · omega
  · exact ⟨g, h, g1⟩
/-- Behind a change of one cell of a row of the call's own. -/
theorem ow_set {b : Nat} (h : Ow E k w lo hi (some ⟨b, 0, none⟩) n cap zs) (i : Nat) (v : Int) (hv : (Lit.int k v).wf = true) : Ow E k (w.setCell ⟨b, i, none⟩ (.int k v)) lo hi (some ⟨b, 0, none⟩) n cap (zs.set i v) := by
  have hs := h.1.stored i (.int k v)
  have e : (zs.map (Value.int k)).set i (.int k v) = (zs.set i v).map (Value.int k) := by rw [List.map_set]
  refine ⟨?_, ?_, ?_, h.2.2.2⟩
  · rw [← e]; exact hs.1
  · intro z hz
    rcases List.mem_or_eq_of_mem_set hz with hz | hz
    · exact h.wf z hz
    · rw [hz]; exact hv
  · have := h.hi_; simpa [World.setCell] using this
theorem cell_of {b : Nat} (h : Ow E k w lo hi (some ⟨b, 0, none⟩) n cap zs) {j : Nat} (hj : j < n) : w.cell? ⟨b, j, none⟩ = some (.int k (zs.getD j 0)) := by
  obtain ⟨b', off, e, _, _, hc⟩ := h.rd.at_ hj
  injection e with e; injection e with e1 e2 e3
  subst e1 e2
  rwa [Nat.zero_add] at hc
end
theorem wf_at {zs : List Int} {n : Nat} (h : Wf .i64 zs) (hl : zs.length = n) {k : Nat} (hk : k < n) {x : Int} (hx : zs.getD k 0 = x) : (Lit.int .i64 x).wf = true := by
  rw [← hx]; exact h.getD (by omega)
theorem wf_in {x : Int} (h : (Lit.int .i64 x).wf = true) : -9223372036854775808 ≤ x ∧ x ≤ 9223372036854775807 := by have := bounds_i64 h; omega
end Go.Proofs.Ytmmhleobgpgliaa.own
end

section
namespace Go.Proofs.Ytmmhleobgpgliaa.rng
open Go.RowKit sl harn

theorem inRange_yes (n a b : Int) (h : a ≤ n ∧ n ≤ b) (w : World) :
    Calls Try.prog 68 #[.int .i64 n, .int .i64 a, .int .i64 b] w fun e w' => e = .returned (.bool true) ∧ w = w' := by
  obtain ⟨h1, h2⟩ := h
  go_enter Try.func68, Try.ntmps68
  go_wp2
  go_ret
  exact ⟨rfl, rfl⟩
theorem inRange_no (n a b : Int) (h : ¬ (a ≤ n ∧ n ≤ b)) (w : World) :
    Calls Try.prog 68 #[.int .i64 n, .int .i64 a, .int .i64 b] w fun e w' => e = .returned (.bool false) ∧ w = w' := by
  by_cases h1 : a ≤ n
  · have h2 : ¬ n ≤ b := by omega
    clear h
    go_enter Try.func68, Try.ntmps68
    go_wp2
    go_ret
    exact ⟨rfl, rfl⟩
  · clear h
    go_enter Try.func68, Try.ntmps68
    go_wp2
    go_ret
    exact ⟨rfl, rfl⟩
theorem l1In_yes (n a b : Int) (h : a ≤ n ∧ n ≤ b) (w : World) :
    Calls Try.prog 57 #[.int .i64 n, .int .i64 a, .int .i64 b] w fun e w' => e = .returned (.bool true) ∧ w = w' := by
  obtain ⟨h1, h2⟩ := h
  go_enter Try.func57, Try.ntmps57
  go_wp2
  go_ret
  exact ⟨rfl, rfl⟩
theorem l1In_no (n a b : Int) (h : ¬ (a ≤ n ∧ n ≤ b)) (w : World) :
    Calls Try.prog 57 #[.int .i64 n, .int .i64 a, .int .i64 b] w fun e w' => e = .returned (.bool false) ∧ w = w' := by
  by_cases h1 : a ≤ n
  · have h2 : ¬ n ≤ b := by omega
    clear h
    go_enter Try.func57, Try.ntmps57
    go_wp2
    go_ret
    exact ⟨rfl, rfl⟩
  · clear h
    go_enter Try.func57, Try.ntmps57
    go_wp2
    go_ret
    exact ⟨rfl, rfl⟩

theorem extremes (x y lo hi : Int) (b : Nat) (w : World) (hlo : lo = if y < x then y else x) (hhi : hi = if x < y then y else x) (hc : w.cell? ⟨b, 0, none⟩ = some (.int .i64 y)) :
    Calls Try.prog 90 #[.int .i64 x, .slice (some ⟨b, 0, none⟩) 1 1] w fun e w' => e = .returned (.tuple #[.int .i64 lo, .int .i64 hi]) ∧ w = w' := by
  rcases Int.lt_trichotomy y x with h | h | h
  · have h2 : ¬ x < y := by omega
    rw [if_pos h] at hlo; rw [if_neg h2] at hhi
    subst hlo hhi
    go_enter Try.func90, Try.ntmps90
    go_wp2
    go_loop [6, 7, 14] (fun l g i => (l = .int .i64 hi ∧ g = .int .i64 hi ∧ i = .int .i64 0) ∨ (l = .int .i64 lo ∧ g = .int .i64 hi ∧ i = .int .i64 1)) (fun _ _ i => (1 - intOf i).toNat)
    case atStart => exact Or.inl ⟨rfl, rfl, rfl⟩
    case round =>
      rcases hrel with ⟨rfl, rfl, rfl⟩ | ⟨rfl, rfl, rfl⟩
      · go_wp2
        go_round
        case rel => exact Or.inr ⟨rfl, rfl, rfl⟩
        case measure => simp [intOf]
      · go_wp2
        go_ret2
        exact ⟨rfl, rfl⟩
  · subst h
    have h2 : ¬ y < y := by omega
    rw [if_neg h2] at hlo hhi
    subst lo hi
    go_enter Try.func90, Try.ntmps90
    go_wp2
    go_loop [6, 7, 14] (fun l g i => (l = .int .i64 y ∧ g = .int .i64 y ∧ i = .int .i64 0) ∨ (l = .int .i64 y ∧ g = .int .i64 y ∧ i = .int .i64 1)) (fun _ _ i => (1 - intOf i).toNat)
    case atStart => exact Or.inl ⟨rfl, rfl, rfl⟩
    case round =>
      rcases hrel with ⟨rfl, rfl, rfl⟩ | ⟨rfl, rfl, rfl⟩
      · go_wp2
        go_round
        case rel => exact Or.inr ⟨rfl, rfl, rfl⟩
        case measure => simp [intOf]
      · go_wp2
        go_ret2
        exact ⟨rfl, rfl⟩
  · have h2 : ¬ y < x := by omega
    rw [if_neg h2] at hlo; rw [if_pos h] at hhi
    subst hlo hhi
    go_enter Try.func90, Try.ntmps90
    go_wp2
    go_loop [6, 7, 14] (fun l g i => (l = .int .i64 lo ∧ g = .int .i64 lo ∧ i = .int .i64 0) ∨ (l = .int .i64 lo ∧ g = .int .i64 hi ∧ i = .int .i64 1)) (fun _ _ i => (1 - intOf i).toNat)
    case atStart => exact Or.inl ⟨rfl, rfl, rfl⟩
    case round =>
      rcases hrel with ⟨rfl, rfl, rfl⟩ | ⟨rfl, rfl, rfl⟩
      · go_wp2
        go_round
        case rel => exact Or.inr ⟨rfl, rfl, rfl⟩
        case measure => simp [intOf]
      · go_wp2
        go_ret2
        exact ⟨rfl, rfl⟩
theorem implMin (x y m : Int) (hm : m = if y < x then y else x) (w : World) :
    Calls Try.prog 91 #[.int .i64 x, .int .i64 y] w fun e w' => e = .returned (.int .i64 m) ∧ Below w.heap.size w w' := by
  obtain ⟨g, hg⟩ : ∃ g, g = if x < y then y else x := ⟨_, rfl⟩
  have HG := Lib.hid hg
  have HM := Lib.hid hm
  clear hm hg
  go_enter Try.func91, Try.ntmps91
  go_wp2_with (first | (go_at_call 90; refine (extremes x y m g _ _ HM.out HG.out (by go_simp)).mono ?_; rintro e w' ⟨rfl, rfl⟩))
  go_ret
  exact ⟨rfl, (Below.refl _ _).alloc (Nat.le_refl _) _⟩
theorem implMax (x y m : Int) (hm : m = if x < y then y else x) (w : World) :
    Calls Try.prog 62 #[.int .i64 x, .int .i64 y] w fun e w' => e = .returned (.int .i64 m) ∧ Below w.heap.size w w' := by
  obtain ⟨g, hg⟩ : ∃ g, g = if y < x then y else x := ⟨_, rfl⟩
  have HG := Lib.hid hg
  have HM := Lib.hid hm
  clear hm hg
  go_enter Try.func62, Try.ntmps62
  go_wp2_with (first | (go_at_call 90; refine (extremes x y g m _ _ HG.out HM.out (by go_simp)).mono ?_; rintro e w' ⟨rfl, rfl⟩))
  go_ret
  exact ⟨rfl, (Below.refl _ _).alloc (Nat.le_refl _) _⟩
end Go.Proofs.Ytmmhleobgpgliaa.rng
end

section
namespace Go.Proofs.Ytmmhleobgpgliaa.bx
open Go.RowKit sl harn rng
set_option linter.unusedVariables false

theorem results_cell1 {fn : Func} {p : Tmp} {ty : TypeId} (h : fn.results = #[.cell p ty]) (tmps : Array Value) (P : Program) (w : World) :
    (results fn tmps).run P w = ((asAddr (tmps.getD p undef)).run P w).andThen fun a w₁ => (loadVar ty a).run P w₁ := by
  simp only [results, h]
  simp [Sem.run_bind, Result.andThen]
theorem results_cell_tmp1 {fn : Func} {p u : Tmp} {ty : TypeId} (h : fn.results = #[.cell p ty, .tmp u]) (tmps : Array Value) (P : Program) (w : World) :
    (results fn tmps).run P w =
      ((asAddr (tmps.getD p undef)).run P w).andThen fun a w₁ => ((loadVar ty a).run P w₁).andThen fun v w₂ => .ok (.tuple #[v, tmps.getD u undef]) w₂ := by
  simp only [results, h]
  simp [Sem.run_bind, Result.andThen]
theorem below_box (w : World) (o : Obj) : Below w.heap.size w (w.alloc o) := (Below.refl _ _).alloc (Nat.le_refl _) _
theorem below_box2 (w : World) (o o' : Obj) : Below w.heap.size w ((w.alloc o).alloc o') := ((Below.refl _ _).alloc (Nat.le_refl _) _).alloc (by simp) _
/-- A block that holds these cells. -/
def Bx (T : TypeId) (w : World) (b : Nat) (cs : Array Value) : Prop := w.heap[b]? = some (.cells cs T (0, 0))
section
variable {T : TypeId} {w w' : World} {b : Nat} {cs : Array Value}
theorem Bx.cell (h : Bx T w b cs) (i : Nat) : w.cell? ⟨b, i, none⟩ = cs[i]? := by unfold Bx at h; simp [World.cell?, h]
theorem Bx.lt (h : Bx T w b cs) : b < w.heap.size := lt_of_block h
theorem Bx.same (h : Bx T w b cs) (hb : w'.heap[b]? = w.heap[b]?) : Bx T w' b cs := by unfold Bx at h ⊢; rw [hb]; exact h
theorem Bx.below (h : Bx T w b cs) (hb : Below w.heap.size w w') : Bx T w' b cs := h.same (hb.block b h.lt)
theorem Bx.free (h : Bx T w b cs) (i : Nat) : w.frozen? ⟨b, i, none⟩ = false := by unfold Bx at h; simp [World.frozen?, h]
theorem Bx.tch {lo hi : Nat} (h : Bx T w b cs) (hb : Tch lo hi w w') (hd : b < lo ∨ hi ≤ b) : Bx T w' b cs := h.same (hb.block b h.lt hd)
theorem Bx.made (T : TypeId) (w : World) (cs : Array Value) : Bx T (w.alloc (.cells cs T)) w.heap.size cs := heap_alloc_new w _
theorem Bx.up {B : Nat} (h : Bx T w b cs) (hb : Below B w w') (hB : b < B) : Bx T w' b cs := h.same (hb.block b hB)
theorem Bx.set (h : Bx T w b cs) (i : Nat) (v : Value) : Bx T (w.setCell ⟨b, i, none⟩ v) b (cs.setIfInBounds i v) := by
  unfold Bx at h ⊢
  simp [World.setCell, Array.getElem?_modify, h]
theorem Bx.other {c : Nat} (h : Bx T w b cs) (hc : b ≠ c) (i : Nat) (v : Value) : Bx T (w.setCell ⟨c, i, none⟩ v) b cs := h.same (Below.heap_setCell _ _ _ _ hc)
end
/-- What a function of a frame hands back that is a bool, or an integer. -/
def BPost (b : Bool) (w : World) (e : Ending) (w' : World) : Prop := e = .returned (.bool b) ∧ Below w.heap.size w w'
def NPost (n : Int) (w : World) (e : Ending) (w' : World) : Prop := e = .returned (.int .i64 n) ∧ Below w.heap.size w w'
theorem b_parts {a b : Bool} (ht : a = b) {w w' : World} {e : Ending} (h : BPost a w e w') : e = .returned (.bool b) ∧ Below w.heap.size w w' := by subst ht; exact h
theorem n_parts {a b : Int} (ht : a = b) {w w' : World} {e : Ending} (h : NPost a w e w') : e = .returned (.int .i64 b) ∧ Below w.heap.size w w' := by subst ht; exact h

theorem inR (n a b : Int) (v : Bool) (w : World) (h : decide (a ≤ n ∧ n ≤ b) = v) :
    Calls Try.prog 68 #[.int .i64 n, .int .i64 a, .int .i64 b] w fun e w' => e = .returned (.bool v) ∧ w = w' := by
  cases v with
  | true => exact inRange_yes n a b (of_decide_eq_true h) w
  | false => exact inRange_no n a b (of_decide_eq_false h) w
theorem l1R (n a b : Int) (v : Bool) (w : World) (h : decide (a ≤ n ∧ n ≤ b) = v) :
    Calls Try.prog 57 #[.int .i64 n, .int .i64 a, .int .i64 b] w fun e w' => e = .returned (.bool v) ∧ w = w' := by
  cases v with
  | true => exact l1In_yes n a b (of_decide_eq_true h) w
  | false => exact l1In_no n a b (of_decide_eq_false h) w
theorem ow_none (E : TypeId) (k : IntKind) (w : World) (lo hi : Nat) (h : hi ≤ w.heap.size) : Ow E k w lo hi none 0 0 [] :=
  ⟨⟨by simp, .inl ⟨rfl, rfl⟩⟩, Wf.nil k, h, fun _ _ e => by cases e⟩

/-- The worlds behind w in which what stood there stands. -/
structure Af (base : World) where
  w : World
  below : Below base.heap.size base w
instance (w : World) : Nonempty (Af w) := ⟨⟨w, Below.refl _ _⟩⟩
theorem Af.next {w v : World} {n : Af w} (h : Below n.w.heap.size n.w v) : ∃ m : Af w, v = m.w :=
  ⟨⟨v, n.below.trans (h.mono n.below.size)⟩, rfl⟩
/-- A region that draws its order, whose operations only read and whose callees leave what was there: walked once, in the text's order. -/
theorem region_after {P : Program} {id : Nat} {Q : Exit → Act → World → Prop} {a : Act} {w : World} {l : List Oper} (hm : P.follows .mixedOrders = true) (hB : Region.lexB .any l.toArray = true)
    (h : wpQuiet P l.toArray (fun w' => ∃ n : Af w, w' = n.w) (fun a' => ∀ w', (∃ n : Af w, w' = n.w) → Q .normal a' w') l a) : (Code.region id l.toArray true).wp P Q a w :=
  wp_region_quiet (C := fun w' => ∃ n : Af w, w' = n.w) hm hB ⟨⟨_, own.below_drew (Below.refl _ _)⟩, rfl⟩ h
theorem Af.call {P : Program} {f : FuncId} {args : Array Value} {w : World} {n : Af w} {v : Value}
    (h : Calls P f args n.w fun e w' => e = .returned v ∧ Below n.w.heap.size n.w w') : Calls P f args n.w fun e w' => e = .returned v ∧ ∃ m : Af w, w' = m.w :=
  h.mono fun _ _ ⟨he, hb⟩ => ⟨he, Af.next hb⟩
theorem Af.rd {k : IntKind} {w : World} {lo hi n cap : Nat} {A : Option Addr} {zs : List Int} (h : Rd k w lo hi A n cap zs) (m : Af w) : Rd k m.w lo hi A n cap zs := h.below m.below
theorem Af.cells {T : TypeId} {w : World} {b : Nat} {cs : Array Value} (h : Bx T w b cs) (m : Af w) : Bx T m.w b cs := h.below m.below
theorem Af.on {w v : World} (h : Below w.heap.size w v) (m : Af v) : Below w.heap.size w m.w := h.trans (m.below.mono h.size)
end Go.Proofs.Ytmmhleobgpgliaa.bx
end

section
namespace Go.Proofs.Ytmmhleobgpgliaa.bs
open Go.RowKit
set_option linter.unusedVariables false

def nsq (s : Int) : Int := if 0 ≤ s ∧ s ≤ 4095 then (s + 1) % 4096 else 0
def sqd (a b : Int) : Int := if (0 ≤ a ∧ a ≤ 4095) ∧ (0 ≤ b ∧ b ≤ 4095) then (b - a) % 4096 else -1
def nwr (a b : Int) : Bool := decide (1 ≤ sqd b a ∧ sqd b a ≤ 2047)
theorem sqd_rng (a b : Int) : -1 ≤ sqd a b ∧ sqd a b ≤ 4095 := by unfold sqd; split <;> omega
theorem sqd_in {a b : Int} (ha : 0 ≤ a ∧ a ≤ 4095) (hb : 0 ≤ b ∧ b ≤ 4095) : sqd a b = (b - a) % 4096 := by unfold sqd; rw [if_pos ⟨ha, hb⟩]
theorem sqd_nn {a b : Int} (h : 0 ≤ sqd a b) : (0 ≤ a ∧ a ≤ 4095) ∧ (0 ≤ b ∧ b ≤ 4095) := by
  unfold sqd at h
  split at h
  · assumption
  · omega
/-- A sender: Start, Next, Acked. -/
structure Bs where
  st : Int
  nx : Int
  ac : Int
/-- How many frames the window holds. -/
def wd (q : Bs) : Nat := (sqd q.st q.nx).toNat
def v1 (q : Bs) : Bool := decide (0 ≤ sqd q.st q.nx ∧ sqd q.st q.nx ≤ 16)
def v2 (q : Bs) : Bool := decide (0 ≤ q.ac ∧ q.ac ≤ 2 ^ wd q - 1)
def v3 (q : Bs) : Bool := q.ac % 2 == 0
def vs (q : Bs) : Bool := v1 q && (v2 q && v3 q)
def va (s b : Int) : Bool := decide (0 ≤ s ∧ s ≤ 4095) && decide (0 ≤ b ∧ b ≤ 65535)
def ou (m w : Nat) : List Nat := (List.range w).filter fun i => !m.testBit i
def fr (s : Int) (i : Nat) : Int := (s + (i : Int)) % 4096
def outs (q : Bs) : List Int := if vs q = true then (ou q.ac.toNat (wd q)).map (fr q.st) else []
def setl (m : Nat) (L : List Nat) (c : Nat → Bool) : Nat := L.foldl (fun a i => if c i = true then a ||| 2 ^ i else a) m
def adv (s : Int) (m : Nat) : Int × Nat := if m % 2 = 1 then adv ((s + 1) % 4096) (m / 2) else (s, m)
termination_by m
decreasing_by omega
def bit (b d : Int) : Bool := b / 2 ^ d.toNat % 2 == 1
def cvr (s b x : Int) : Bool := nwr s x || (decide (0 ≤ sqd s x ∧ sqd s x ≤ 15) && bit b (sqd s x))
def aft (q : Bs) (M : Nat) : Bs := ⟨(adv q.st M).1, q.nx, (adv q.st M).2⟩
def mks (q : Bs) (c : Int → Bool) : Nat := setl q.ac.toNat (List.range (wd q)) fun i => c (fr q.st i)
def mfa (q : Bs) (s b : Int) : Bool := va s b && decide (0 ≤ sqd s q.nx ∧ sqd s q.nx ≤ 2047)
def rcv (q : Bs) (s b : Int) : Bs := if (vs q && mfa q s b) = true then aft q (mks q (cvr s b)) else q
def giv (q : Bs) (x : Int) : Bs := if x ∈ outs q then aft q (mks q (fun y => y == x)) else q
def don (q : Bs) : Bool := vs q && ((outs q).length == 0)
def ful (q : Bs) : Bool := sqd q.st q.nx == 16
def may (q : Bs) : Bool := vs q && !ful q
def snx (q : Bs) : Bs := ⟨q.st, nsq q.nx, q.ac⟩
def new (n : Int) : Bs := if 0 ≤ n ∧ n ≤ 4095 then ⟨n, n, 0⟩ else ⟨0, 0, 0⟩

/-- A valid sender of w frames with the set m. -/
structure V (q : Bs) (w m : Nat) : Prop where
  hs : 0 ≤ q.st ∧ q.st ≤ 4095
  hn : q.nx = (q.st + (w : Int)) % 4096
  hw : w ≤ 16
  ha : q.ac = (m : Int)
  hb : m < 2 ^ w
  he : m % 2 = 0
theorem V.sq {q : Bs} {w m : Nat} (h : V q w m) : sqd q.st q.nx = (w : Int) := by
  have h1 := h.hs; have h2 := h.hn; have h3 := h.hw
  rw [sqd_in h1 (by omega)]; omega
theorem V.wd {q : Bs} {w m : Nat} (h : V q w m) : wd q = w := by unfold bs.wd; rw [h.sq]; omega
theorem V.ac {q : Bs} {w m : Nat} (h : V q w m) : q.ac.toNat = m := by rw [h.ha]; omega
theorem V.vs {q : Bs} {w m : Nat} (h : V q w m) : vs q = true := by
  have h1 := h.sq; have h2 := h.wd; have h3 := h.hw; have h4 := h.ha; have h5 := h.hb; have h6 := h.he
  have h7 : ((2 ^ w : Nat) : Int) = 2 ^ w := by simp
  unfold bs.vs v1 v2 v3
  rw [h1, h2, h4, ← h7]
  simp
  omega
theorem vs_V {q : Bs} (h : vs q = true) : V q (wd q) q.ac.toNat := by
  unfold vs v1 v2 v3 at h
  simp only [Bool.and_eq_true, decide_eq_true_eq, beq_iff_eq] at h
  obtain ⟨h1, h2, h3⟩ := h
  have h4 := sqd_nn h1.1
  have h5 : (wd q : Int) = sqd q.st q.nx := by unfold wd; omega
  have h6 := sqd_in h4.1 h4.2
  have h7 : ((2 ^ wd q : Nat) : Int) = 2 ^ wd q := by simp
  rw [← h7] at h2
  exact ⟨h4.1, by omega, by omega, by omega, by omega, by omega⟩
theorem vs_of {q : Bs} (h : vs q = true) : ∃ w m, V q w m := ⟨_, _, vs_V h⟩
theorem V.outs {q : Bs} {w m : Nat} (h : V q w m) : outs q = (ou m w).map (fr q.st) := by
  unfold bs.outs; rw [if_pos h.vs, h.wd, h.ac]
theorem outs_no {q : Bs} (h : vs q = false) : outs q = [] := by unfold outs; rw [if_neg (by simp [h])]
theorem mem_ou {m w i : Nat} : i ∈ ou m w ↔ i < w ∧ m.testBit i = false := by simp [ou]
theorem ou_len (m w : Nat) : (ou m w).length ≤ w := by
  have := List.length_filter_le (fun i => !m.testBit i) (List.range w)
  simpa [ou] using this
theorem V.mk' {q : Bs} {w m : Nat} (h : V q w m) (c : Int → Bool) : mks q c = setl m (List.range w) fun i => c (fr q.st i) := by unfold mks; rw [h.wd, h.ac]
theorem setl_bit (c : Nat → Bool) (i : Nat) : ∀ (L : List Nat) (m : Nat), (setl m L c).testBit i = (m.testBit i || (decide (i ∈ L) && c i))
  | [], m => by simp [setl]
  | x :: L, m => by
    have h : setl m (x :: L) c = setl (if c x = true then m ||| 2 ^ x else m) L c := rfl
    rw [h, setl_bit c i L]
    by_cases hx : i = x
    · subst hx
      cases hc : c i <;> simp [Nat.testBit_two_pow_self]
    · have h2 : (if c x = true then m ||| 2 ^ x else m).testBit i = m.testBit i := by
        split
        · rw [Nat.testBit_or, Nat.testBit_two_pow_of_ne (fun e => hx e.symm)]; simp
        · rfl
      rw [h2]
      simp [hx]
theorem setl_lt {w m : Nat} {c : Nat → Bool} {L : List Nat} (hm : m < 2 ^ w) (hL : ∀ i ∈ L, i < w) : setl m L c < 2 ^ w := by
  induction L generalizing m with
  | nil => exact hm
  | cons x L ih =>
    refine ih (m := if c x = true then m ||| 2 ^ x else m) ?_ (fun i hi => hL i (List.mem_cons_of_mem _ hi))
    split
    · exact Nat.or_lt_two_pow hm (Nat.pow_lt_pow_right (by omega) (hL x (List.mem_cons_self ..)))
    · exact hm
theorem setl_snoc (m : Nat) (L : List Nat) (i : Nat) (c : Nat → Bool) : setl m (L ++ [i]) c = if c i = true then setl m L c ||| 2 ^ i else setl m L c := by simp [setl]
/-- Setting the bits of those that are not set yet is setting all. -/
theorem setl_ou (m w : Nat) (c : Nat → Bool) : setl m (ou m w) c = setl m (List.range w) c := by
  refine Nat.eq_of_testBit_eq fun i => ?_
  rw [setl_bit, setl_bit]
  have h1 : decide (i ∈ ou m w) = (decide (i < w) && !m.testBit i) := by
    cases h : m.testBit i <;> simp [mem_ou, h]
  rw [h1]
  cases m.testBit i <;> simp
theorem setl_one {m w i : Nat} {c : Nat → Bool} (hi : i < w) (hc : ∀ j, j < w → (c j = true ↔ j = i)) : setl m (List.range w) c = m ||| 2 ^ i := by
  refine Nat.eq_of_testBit_eq fun j => ?_
  rw [setl_bit, Nat.testBit_or]
  by_cases hj : j < w
  · by_cases he : j = i
    · subst he
      rw [(hc j hj).2 rfl, Nat.testBit_two_pow_self]; simp [hj]
    · have h2 : c j = false := by
        cases h : c j
        · rfl
        · exact absurd ((hc j hj).1 h) he
      rw [h2, Nat.testBit_two_pow_of_ne (fun e => he e.symm)]; simp
  · rw [Nat.testBit_two_pow_of_ne (fun e => hj (by omega))]; simp [hj]
theorem adv_odd {s : Int} {m : Nat} (h : m % 2 = 1) : adv s m = adv ((s + 1) % 4096) (m / 2) := by rw [adv, if_pos h]
theorem adv_even {s : Int} {m : Nat} (h : ¬ m % 2 = 1) : adv s m = (s, m) := by rw [adv, if_neg h]
theorem adv_at : ∀ (M : Nat) (s : Int) (w : Nat), 0 ≤ s ∧ s ≤ 4095 → M < 2 ^ w → ∃ t, t ≤ w ∧ adv s M = ((s + (t : Int)) % 4096, M / 2 ^ t) ∧ M / 2 ^ t % 2 = 0 ∧ ∀ i, i < t → M.testBit i = true := by
  intro M
  induction M using Nat.strongRecOn with
  | _ M ih =>
    intro s w hs hw
    by_cases h : M % 2 = 1
    · have hw1 : 1 ≤ w := by
        rcases Nat.eq_zero_or_pos w with h0 | h0
        · subst h0; simp at hw; omega
        · exact h0
      obtain ⟨v, rfl⟩ : ∃ v, w = v + 1 := ⟨w - 1, by omega⟩
      rw [Nat.pow_succ] at hw
      obtain ⟨t, h1, h2, h3, h4⟩ := ih (M / 2) (by omega) ((s + 1) % 4096) v (by omega) (by omega)
      refine ⟨t + 1, by omega, ?_, ?_, ?_⟩
      · rw [adv_odd h, h2, Nat.div_div_eq_div_mul, ← Nat.pow_succ']
        congr 1
        omega
      · rw [Nat.div_div_eq_div_mul, ← Nat.pow_succ'] at h3
        exact h3
      · intro i hi
        rcases i with _ | i
        · rw [Nat.testBit_zero]; simpa using h
        · rw [Nat.testBit_succ]; exact h4 i (by omega)
    · refine ⟨0, by omega, ?_, ?_, fun i hi => absurd hi (by omega)⟩
      · rw [adv_even h]
        simp
        omega
      · simp; omega
theorem fr_rng (s : Int) (i : Nat) : 0 ≤ fr s i ∧ fr s i ≤ 4095 := by unfold fr; omega
theorem fr_fr (s : Int) (t i : Nat) : fr ((s + (t : Int)) % 4096) i = fr s (t + i) := by unfold fr; omega
theorem fr_inj {s : Int} {i j : Nat} (hi : i < 16) (hj : j < 16) (h : fr s i = fr s j) : i = j := by unfold fr at h; omega
theorem sqd_fr {s : Int} {i : Nat} (hs : 0 ≤ s ∧ s ≤ 4095) (hi : i < 16) : sqd s (fr s i) = (i : Int) := by
  rw [sqd_in hs (fr_rng s i)]; unfold fr; omega
/-- What the window's beginning leaves out was set. -/
theorem ou_shift {M w t : Nat} (ht : t ≤ w) (h : ∀ i, i < t → M.testBit i = true) : (ou (M / 2 ^ t) (w - t)).map (t + ·) = ou M w := by
  have e1 : List.range w = List.range t ++ (List.range (w - t)).map (t + ·) := by
    rw [← List.range_add]; congr 1; omega
  have e2 : (List.range t).filter (fun i => !M.testBit i) = [] := by
    rw [List.filter_eq_nil_iff]
    intro i hi
    rw [h i (by simpa using hi)]; simp
  unfold ou
  rw [e1, List.filter_append, e2, List.nil_append, List.filter_map]
  congr 1
  refine List.filter_congr fun i _ => ?_
  simp [Function.comp, Nat.testBit_div_two_pow, Nat.add_comm]
structure Af (q x : Bs) (M w : Nat) : Prop where
  ex : ∃ t v m, t ≤ w ∧ V x v m ∧ v = w - t ∧ m = M / 2 ^ t ∧ x.st = (q.st + (t : Int)) % 4096 ∧ ∀ i, i < t → M.testBit i = true
  n : x.nx = q.nx
  o : outs x = (ou M w).map (fr q.st)
theorem V.aft {q : Bs} {w m M : Nat} (h : V q w m) (hM : M < 2 ^ w) : Af q (aft q M) M w := by
  obtain ⟨t, h1, h2, h3, h4⟩ := adv_at M q.st w h.hs hM
  have e1 : bs.aft q M = ⟨(q.st + (t : Int)) % 4096, q.nx, ((M / 2 ^ t : Nat) : Int)⟩ := by unfold bs.aft; rw [h2]
  have hV : V (bs.aft q M) (w - t) (M / 2 ^ t) := by
    rw [e1]
    refine ⟨by dsimp only; omega, ?_, by have := h.hw; omega, rfl, ?_, h3⟩
    · have := h.hn; dsimp only; omega
    · rw [Nat.div_lt_iff_lt_mul (Nat.pow_pos (by omega)), ← Nat.pow_add, Nat.sub_add_cancel h1]; exact hM
  refine ⟨⟨t, _, _, h1, hV, rfl, rfl, by rw [e1], h4⟩, rfl, ?_⟩
  rw [hV.outs, ← ou_shift h1 h4, List.map_map, e1]
  refine List.map_congr_left fun i _ => ?_
  simp only [Function.comp]
  exact fr_fr _ _ _
theorem ou_setl (m w : Nat) (c : Nat → Bool) : ou (setl m (List.range w) c) w = (ou m w).filter fun i => !c i := by
  unfold ou
  rw [List.filter_filter]
  refine List.filter_congr fun i hi => ?_
  rw [setl_bit]
  have : decide (i ∈ List.range w) = true := by simpa using hi
  rw [this]
  cases m.testBit i <;> simp
theorem mks_lt {q : Bs} {w m : Nat} (h : V q w m) (c : Int → Bool) : mks q c < 2 ^ w := by
  rw [h.mk']; exact setl_lt h.hb fun i hi => by simpa using hi
theorem V.mko {q : Bs} {w m : Nat} (h : V q w m) (c : Int → Bool) : bs.outs (bs.aft q (mks q c)) = (bs.outs q).filter fun y => !c y := by
  rw [(h.aft (mks_lt h c)).o, h.mk', ou_setl, h.outs, List.filter_map]
  rfl
theorem V.valid {q : Bs} {w m M : Nat} (h : V q w m) (hM : M < 2 ^ w) : bs.vs (bs.aft q M) = true := by
  obtain ⟨t, v, m', _, hv, _⟩ := (h.aft hM).ex
  exact hv.vs
theorem V.none {q : Bs} {w m : Nat} (h : V q w m) (ho : bs.outs q = []) : q.st = q.nx := by
  rw [h.outs, List.map_eq_nil_iff] at ho
  have hw : w = 0 := by
    rcases Nat.eq_zero_or_pos w with h0 | h0
    · exact h0
    · have : 0 ∈ ou m w := mem_ou.2 ⟨h0, by rw [Nat.testBit_zero]; have := h.he; simp; omega⟩
      rw [ho] at this
      cases this
  have h1 := h.hs; have h2 := h.hn
  subst hw
  simp at h2
  omega
/-- Again the same acknowledgment: nothing changes. -/
theorem V.again {q : Bs} {w m : Nat} (h : V q w m) (c : Int → Bool) : bs.aft (bs.aft q (mks q c)) (mks (bs.aft q (mks q c)) c) = bs.aft q (mks q c) := by
  have hA := h.aft (mks_lt h c)
  generalize hx : bs.aft q (mks q c) = x at hA ⊢
  obtain ⟨t, v, m', h1, hv, h2, h3, h4, h5⟩ := hA.ex
  have e : mks x c = m' := by
    rw [hv.mk']
    refine Nat.eq_of_testBit_eq fun i => ?_
    rw [setl_bit]
    by_cases hi : i < v
    · cases hc : c (fr x.st i)
      · simp
      · have : m'.testBit i = true := by
          rw [h3, Nat.testBit_div_two_pow, h.mk', setl_bit]
          have e1 : fr x.st i = fr q.st (i + t) := by rw [h4, fr_fr, Nat.add_comm]
          rw [← e1, hc]
          have : i + t < w := by omega
          simp [this]
        rw [this]; simp
    · simp [hi]
  rw [e]
  unfold bs.aft
  rw [adv_even (by have := hv.he; omega)]
  have := hv.ha
  obtain ⟨a, b, d⟩ := x
  dsimp only at this ⊢
  rw [this]
/-- Giving up the first outstanding frame. -/
theorem V.drop {q : Bs} {w m : Nat} {x : Int} {r : List Int} (h : V q w m) (ho : bs.outs q = x :: r) : ∃ v m', V (giv q x) v m' ∧ bs.outs (giv q x) = r ∧ (giv q x).nx = q.nx := by
  have hmem : x ∈ bs.outs q := by rw [ho]; exact List.mem_cons_self ..
  have e : giv q x = bs.aft q (mks q fun y => y == x) := by unfold giv; rw [if_pos hmem]
  obtain ⟨t, v, m', _, hv, _⟩ := (h.aft (mks_lt h fun y => y == x)).ex
  refine ⟨v, m', by rw [e]; exact hv, ?_, by rw [e]; rfl⟩
  rw [e, h.mko, ho]
  have hn : (bs.outs q).Nodup := by
    rw [h.outs]
    refine List.pairwise_map.2 ?_
    refine List.Pairwise.imp_of_mem (R := (· ≠ ·)) ?_ (List.Pairwise.filter _ List.nodup_range)
    intro a b ha hb hab e
    have h1 := h.hw
    have h2 := (mem_ou.1 ha).1
    have h3 := (mem_ou.1 hb).1
    exact hab (fr_inj (by omega) (by omega) e)
  rw [ho] at hn
  have hx : ∀ y ∈ r, ¬ y = x := fun y hy e => (List.nodup_cons.1 hn).1 (e ▸ hy)
  rw [List.filter_cons_of_neg (by simp), List.filter_eq_self]
  intro y hy
  simp [hx y hy]
theorem foldl_take (q : Bs) (L : List Int) {k : Nat} (h : k < L.length) : (L.take (k + 1)).foldl giv q = giv ((L.take k).foldl giv q) (L.getD k 0) := by
  rw [List.take_add_one, List.foldl_append, List.getD_eq_getElem?_getD, List.getElem?_eq_getElem h]
  rfl
/-- Giving up all. -/
theorem V.all : ∀ (L : List Int) (q : Bs) (w m : Nat), V q w m → bs.outs q = L → ∃ v m', V (L.foldl giv q) v m' ∧ bs.outs (L.foldl giv q) = [] ∧ (L.foldl giv q).nx = q.nx
  | [], q, w, m, h, ho => ⟨w, m, h, ho, rfl⟩
  | x :: L, q, w, m, h, ho => by
    obtain ⟨v, m', h1, h2, h3⟩ := h.drop ho
    obtain ⟨v2, m2, h4, h5, h6⟩ := V.all L (giv q x) v m' h1 h2
    exact ⟨v2, m2, h4, h5, h6.trans h3⟩
theorem all_done {q : Bs} (h : vs q = true) : don ((outs q).foldl giv q) = true ∧ ((outs q).foldl giv q).st = q.nx := by
  obtain ⟨w, m, hV⟩ := vs_of h
  obtain ⟨v, m', h1, h2, h3⟩ := V.all _ q w m hV rfl
  refine ⟨?_, (h1.none h2).trans h3⟩
  unfold don
  rw [h1.vs, h2]
  rfl
theorem V.sent {q : Bs} {w m : Nat} (h : V q w m) (hw : w < 16) : V (snx q) (w + 1) m ∧ q.nx ∈ bs.outs (snx q) := by
  have hs := h.hs
  have hn := h.hn
  have hb := h.hb
  have hV : V (snx q) (w + 1) m := by
    refine ⟨hs, ?_, by omega, h.ha, by rw [Nat.pow_succ]; omega, h.he⟩
    show nsq q.nx = (q.st + ((w + 1 : Nat) : Int)) % 4096
    unfold nsq
    rw [if_pos (by omega)]
    omega
  refine ⟨hV, ?_⟩
  rw [hV.outs, List.mem_map]
  exact ⟨w, mem_ou.2 ⟨by omega, Nat.testBit_lt_two_pow hb⟩, hn.symm⟩
theorem may_V {q : Bs} (h : may q = true) : ∃ w m, V q w m ∧ w < 16 := by
  unfold may at h
  rw [Bool.and_eq_true] at h
  obtain ⟨w, m, hV⟩ := vs_of h.1
  refine ⟨w, m, hV, ?_⟩
  have h1 := h.2
  unfold ful at h1
  rw [hV.sq] at h1
  have := hV.hw
  simp at h1
  omega
theorem sent {q : Bs} (h : may q = true) : vs (snx q) = true ∧ q.nx ∈ outs (snx q) := by
  obtain ⟨w, m, hV, hw⟩ := may_V h
  exact ⟨(hV.sent hw).1.vs, (hV.sent hw).2⟩
/-- What an acknowledgment leaves. -/
theorem rcv_ok {q : Bs} (s b : Int) (h : vs q = true) : vs (rcv q s b) = true ∧ (rcv q s b).nx = q.nx ∧ (∀ y ∈ outs (rcv q s b), y ∈ outs q) ∧ rcv (rcv q s b) s b = rcv q s b := by
  obtain ⟨w, m, hV⟩ := vs_of h
  by_cases hc : (vs q && mfa q s b) = true
  · have e : rcv q s b = aft q (mks q (cvr s b)) := by unfold rcv; rw [if_pos hc]
    have h1 := hV.valid (mks_lt hV (cvr s b))
    refine ⟨by rw [e]; exact h1, by rw [e]; rfl, ?_, ?_⟩
    · intro y hy
      rw [e, hV.mko] at hy
      exact (List.mem_filter.1 hy).1
    · have h2 : (vs (aft q (mks q (cvr s b))) && mfa (aft q (mks q (cvr s b))) s b) = true := by
        rw [h1]
        rw [Bool.and_eq_true] at hc
        exact hc.2
      rw [e]
      unfold rcv
      rw [if_pos h2]
      exact hV.again _
  · have e : rcv q s b = q := by unfold rcv; rw [if_neg hc]
    refine ⟨by rw [e]; exact h, by rw [e], fun y hy => by rw [e] at hy; exact hy, by rw [e, e]⟩
theorem outs_len (q : Bs) : (outs q).length ≤ 16 := by
  cases h : vs q
  · rw [outs_no h]; simp
  · obtain ⟨w, m, hV⟩ := vs_of h
    rw [hV.outs, List.length_map]
    have := ou_len m w
    have := hV.hw
    omega
theorem outs_in (q : Bs) : ∀ y ∈ outs q, 0 ≤ y ∧ y ≤ 4095 := by
  intro y hy
  cases h : vs q
  · rw [outs_no h] at hy; cases hy
  · obtain ⟨w, m, hV⟩ := vs_of h
    rw [hV.outs, List.mem_map] at hy
    obtain ⟨i, _, rfl⟩ := hy
    exact fr_rng _ _
/-- Steps of the program's loops. -/
theorem ou_zero (m : Nat) : ou m 0 = [] := rfl
theorem ou_yes {m k : Nat} (h : m.testBit k = false) : ou m (k + 1) = ou m k ++ [k] := by simp [ou, List.range_succ, h]
theorem ou_no {m k : Nat} (h : m.testBit k = true) : ou m (k + 1) = ou m k := by simp [ou, List.range_succ, h]
theorem setr_yes {m k : Nat} {c : Nat → Bool} (h : c k = true) : setl m (List.range (k + 1)) c = setl m (List.range k) c ||| 2 ^ k := by rw [List.range_succ, setl_snoc, if_pos h]
theorem setr_no {m k : Nat} {c : Nat → Bool} (h : c k = false) : setl m (List.range (k + 1)) c = setl m (List.range k) c := by rw [List.range_succ, setl_snoc, if_neg (by simp [h])]
theorem sett_yes {m j i : Nat} {L : List Nat} {c : Nat → Bool} (hj : L[j]? = some i) (h : c i = true) : setl m (L.take (j + 1)) c = setl m (L.take j) c ||| 2 ^ i := by rw [List.take_add_one, hj]; show setl m (L.take j ++ [i]) c = _; rw [setl_snoc, if_pos h]
theorem sett_no {m j i : Nat} {L : List Nat} {c : Nat → Bool} (hj : L[j]? = some i) (h : c i = false) : setl m (L.take (j + 1)) c = setl m (L.take j) c := by rw [List.take_add_one, hj]; show setl m (L.take j ++ [i]) c = _; rw [setl_snoc, if_neg (by simp [h])]
theorem bit_test (m i : Nat) (d : Int) (hd : d = (i : Int)) : bit (m : Int) d = m.testBit i := by
  unfold bit
  subst hd
  rw [Nat.testBit_eq_decide_div_mod_eq, Int.toNat_natCast]
  have h7 : ((2 ^ i : Nat) : Int) = 2 ^ i := by simp
  rw [← h7, Bool.eq_iff_iff, beq_iff_eq, decide_eq_true_eq]
  generalize 2 ^ i = p
  omega
theorem or_pow {a i : Nat} (ha : a < 65536) (hi : i < 16) : bits .or .i64 (a : Int) (wrap64 (2 ^ i)) = ((a ||| 2 ^ i : Nat) : Int) := by
  have h7 : ((2 ^ i : Nat) : Int) = 2 ^ i := by simp
  have h2 : 2 ^ i < 2 ^ 16 := Nat.pow_lt_pow_right (by omega) hi
  rw [← h7]
  generalize 2 ^ i = p at h2
  have h3 : wrap64 (p : Int) = (p : Int) := by unfold wrap64; omega
  rw [h3]
  exact (bits_nat .i64 62 (by decide) (fun n h0 h1 => by rw [IntKind.wrap_i64]; omega) a p (by omega) (by omega)).2
end Go.Proofs.Ytmmhleobgpgliaa.bs
end

section
namespace Go.Proofs.Ytmmhleobgpgliaa.draw
open Go.RowKit

theorem low_bits (j : Nat) (hj : j ≤ 62) (n : Int) : bits .and .i64 n ((2 ^ j - 1 : Nat) : Int) = n % ((2 ^ j : Nat) : Int) := by
  have hp : (2 : Nat) ^ j ≤ 2 ^ 62 := Nat.pow_le_pow_right (by omega) hj
  have hp2 : (2 : Nat) ^ 62 = 4611686018427387904 := by decide
  have hpos : 0 < (2 : Nat) ^ j := Nat.two_pow_pos j
  have hm : (BitVec.ofInt 64 ((2 ^ j - 1 : Nat) : Int)).toNat = 2 ^ j - 1 := by
    rw [BitVec.toNat_ofInt]
    have : (((2 ^ j - 1 : Nat) : Int) % ((2 ^ 64 : Nat) : Int)) = ((2 ^ j - 1 : Nat) : Int) := Int.emod_eq_of_lt (by omega) (by omega)
    rw [this]; simp
  have key : (BitVec.ofInt 64 n &&& BitVec.ofInt 64 ((2 ^ j - 1 : Nat) : Int)).toNat = (n % ((2 ^ 64 : Nat) : Int)).toNat % 2 ^ j := by
    rw [BitVec.toNat_and, hm, BitVec.toNat_ofInt, Nat.and_two_pow_sub_one_eq_mod]
  show IntKind.i64.wrap ((BitVec.ofInt 64 n &&& BitVec.ofInt 64 ((2 ^ j - 1 : Nat) : Int)).toNat : Nat) = _
  rw [key]
  have hd : ((2 : Nat) ^ j) ∣ 2 ^ 64 := Nat.pow_dvd_pow 2 (by omega)
  have e : (((n % ((2 ^ 64 : Nat) : Int)).toNat % 2 ^ j : Nat) : Int) = n % ((2 ^ j : Nat) : Int) := by
    rw [Int.natCast_emod, Int.toNat_of_nonneg (Int.emod_nonneg _ (by decide))]
    exact Int.emod_emod_of_dvd n (Int.natCast_dvd_natCast.2 hd)
  rw [e, IntKind.wrap_i64]
  have h1 : 0 ≤ n % ((2 ^ j : Nat) : Int) := Int.emod_nonneg _ (by omega)
  have h2 : n % ((2 ^ j : Nat) : Int) < ((2 ^ j : Nat) : Int) := Int.emod_lt_of_pos _ (by omega)
  omega
theorem low8 (n : Int) : bits .and .i64 n 255 = n % 256 := low_bits 8 (by omega) n
theorem low30 (n : Int) : bits .and .i64 n 1073741823 = n % 1073741824 := low_bits 30 (by omega) n

/-- Only block p of what was there may have been written. -/
structure Keep (p : Nat) (w w' : World) : Prop where
  os : w'.os = w.os
  tape : w'.tape = w.tape
  output : w'.output = w.output
  size : w.heap.size ≤ w'.heap.size
  block : ∀ k, k < w.heap.size → k ≠ p → w'.heap[k]? = w.heap[k]?
theorem Keep.refl (p : Nat) (w : World) : Keep p w w := ⟨rfl, rfl, rfl, Nat.le_refl _, fun _ _ _ => rfl⟩
theorem Keep.trans {p : Nat} {a b c : World} (h : Keep p a b) (k : Keep p b c) : Keep p a c :=
  ⟨k.os.trans h.os, k.tape.trans h.tape, k.output.trans h.output, Nat.le_trans h.size k.size, fun j hj hn => (k.block j (Nat.lt_of_lt_of_le hj h.size) hn).trans (h.block j hj hn)⟩
theorem Keep.below {p B : Nat} {w w' : World} (h : Keep p w w') (hB : B ≤ p) (hs : p < w.heap.size) : Below B w w' :=
  ⟨h.os, h.tape, h.output, h.size, fun k hk => h.block k (by omega) (by omega)⟩
theorem Keep.drew {p : Nat} {a w : World} (h : Keep p a w) : Keep p a w.drew := ⟨h.os, h.tape, h.output, h.size, h.block⟩
theorem Keep.drewN {p : Nat} {a w : World} (h : Keep p a w) (n : Nat) : Keep p a (w.drewN n) := ⟨h.os, h.tape, h.output, h.size, h.block⟩
theorem Keep.setCell {p o : Nat} {a w : World} (h : Keep p a w) (v : Value) : Keep p a (w.setCell ⟨p, o, none⟩ v) :=
  ⟨h.os, h.tape, h.output, by simpa using h.size, fun k hk hn => by rw [Below.heap_setCell w ⟨p, o, none⟩ v k hn]; exact h.block k hk hn⟩
theorem Keep.alloc {p : Nat} {a w : World} (h : Keep p a w) (o : Obj) : Keep p a (w.alloc o) :=
  ⟨h.os, h.tape, h.output, by simp; have := h.size; omega, fun k hk hn => by rw [Below.heap_alloc w o k (Nat.lt_of_lt_of_le hk h.size)]; exact h.block k hk hn⟩
theorem Keep.cell {p : Nat} {w w' : World} (h : Keep p w w') {q : Addr} (hq : q.block < w.heap.size) (hn : q.block ≠ p) : w'.cell? q = w.cell? q := World.cell?_of_block (w := w) (h.block q.block hq hn)

/-- A block of three cells. -/
theorem cell3_0 {w : World} {b : Nat} {x y z : Value} {t : TypeId} (h : w.heap[b]? = some (.cells #[x, y, z] t (0, 0))) : w.cell? ⟨b, 0, none⟩ = some x := by simp [World.cell?, h]
theorem cell3_1 {w : World} {b : Nat} {x y z : Value} {t : TypeId} (h : w.heap[b]? = some (.cells #[x, y, z] t (0, 0))) : w.cell? ⟨b, 1, none⟩ = some y := by simp [World.cell?, h]
theorem cell3_2 {w : World} {b : Nat} {x y z : Value} {t : TypeId} (h : w.heap[b]? = some (.cells #[x, y, z] t (0, 0))) : w.cell? ⟨b, 2, none⟩ = some z := by simp [World.cell?, h]
theorem free3 {w : World} {b : Nat} {x y z : Value} {t : TypeId} (h : w.heap[b]? = some (.cells #[x, y, z] t (0, 0))) (k : Nat) : w.frozen? ⟨b, k, none⟩ = false := by simp [World.frozen?, h]
theorem set3_1 {w : World} {b : Nat} {x y z u : Value} {t : TypeId} (h : w.heap[b]? = some (.cells #[x, y, z] t (0, 0))) : (w.setCell ⟨b, 1, none⟩ u).heap[b]? = some (.cells #[x, u, z] t (0, 0)) := by
  have hlt := lt_of_block h
  have h' : w.heap[b] = .cells #[x, y, z] t (0, 0) := by simpa [Array.getElem?_eq_getElem hlt] using h
  show (w.heap.modify b _)[b]? = _
  rw [Array.getElem?_eq_getElem (by simpa using hlt), Array.getElem_modify_self, h']
  rfl
theorem set3_2 {w : World} {b : Nat} {x y z u : Value} {t : TypeId} (h : w.heap[b]? = some (.cells #[x, y, z] t (0, 0))) : (w.setCell ⟨b, 2, none⟩ u).heap[b]? = some (.cells #[x, y, u] t (0, 0)) := by
  have hlt := lt_of_block h
  have h' : w.heap[b] = .cells #[x, y, z] t (0, 0) := by simpa [Array.getElem?_eq_getElem hlt] using h
  show (w.heap.modify b _)[b]? = _
  rw [Array.getElem?_eq_getElem (by simpa using hlt), Array.getElem_modify_self, h']
  rfl

/-- The bytes that a draw reads. -/
def Code (w : World) (p : Nat) (a : Option Addr) (len : Nat) : Prop :=
  len ≤ 9223372036854775807 ∧ (0 < len → ∃ b off, a = some ⟨b, off, none⟩ ∧ b ≠ p ∧ b < w.heap.size ∧ ∀ i, i < len → ∃ z : Int, 0 ≤ z ∧ z ≤ 255 ∧ w.cell? ⟨b, off + i, none⟩ = some (.int .u8 z))
theorem Code.keep {w w' : World} {p : Nat} {a : Option Addr} {len : Nat} (h : Code w p a len) (k : Keep p w w') : Code w' p a len := by
  refine ⟨h.1, fun hl => ?_⟩
  obtain ⟨b, off, e, hn, hb, hc⟩ := h.2 hl
  refine ⟨b, off, e, hn, Nat.lt_of_lt_of_le hb k.size, fun i hi => ?_⟩
  obtain ⟨z, h1, h2, h3⟩ := hc i hi
  exact ⟨z, h1, h2, by rw [k.cell hb hn]; exact h3⟩
/-- The cursor at block p. -/
def Cur (w : World) (p : Nat) (a : Option Addr) (len cap : Nat) : Prop :=
  Code w p a len ∧ ∃ (i : Nat) (h : Int), i ≤ len ∧ w.heap[p]? = some (.cells #[.slice a len cap, .int .i64 i, .int .i64 h] 109 (0, 0))

def BytePost (p : Nat) (a : Option Addr) (len cap : Nat) (w : World) (e : Ending) (w' : World) : Prop := ∃ x : Int, e = .returned (.int .i64 x) ∧ 0 ≤ x ∧ x ≤ 255 ∧ Keep p w w' ∧ Cur w' p a len cap

theorem byte_more (w : World) (p : Nat) (a : Option Addr) (len cap : Nat) (hcode : Code w p a len) (i : Nat) (h : Int) (hlt : i < len) (hb : w.heap[p]? = some (.cells #[.slice a len cap, .int .i64 i, .int .i64 h] 109 (0, 0))) :
    Calls Try.prog 96 #[.pointer (some ⟨p, 0, none⟩)] w (BytePost p a len cap w) := by
  have c0 := cell3_0 hb
  have c1 := cell3_1 hb
  have c2 := cell3_2 hb
  have z1 := free3 hb 1
  have z2 := free3 hb 2
  have HB := Lib.hid hb
  have HC := Lib.hid hcode
  clear hb
  obtain ⟨b, off, rfl, hbp, -, hcells⟩ := hcode.2 (by omega)
  obtain ⟨z, hz0, hz1, hz⟩ := hcells i hlt
  clear hcells
  have hlt2 : (i : Int) < len := by omega
  have hlen : (len : Int) ≤ 9223372036854775807 := by have := hcode.1; omega
  have HI := Lib.hid hlt
  clear hcode hlt
  go_enter Try.func96, Try.ntmps96
  go_wp2
  generalize wrap64 (wrap64 (h * 6364136223846793005) + 1442695040888963407) = g
  go_quiet (fail)
  obtain ⟨x, hx⟩ : ∃ x, bits BinOp.and IntKind.i64 (bits BinOp.xor IntKind.i64 (g / 8589934592) (g / 140737488355328)) 255 = x := ⟨_, rfl⟩
  have hx0 : 0 ≤ x := by rw [← hx, low8]; omega
  have hx1 : x ≤ 255 := by rw [← hx, low8]; omega
  rw [hx]
  clear hx
  go_wp2
  go_quiet (fail)
  go_wp2
  go_quiet (fail)
  obtain ⟨y, hy⟩ : ∃ y, bits BinOp.and IntKind.i64 (x + z) 255 = y := ⟨_, rfl⟩
  have hy0 : 0 ≤ y := by rw [← hy, low8]; omega
  have hy1 : y ≤ 255 := by rw [← hy, low8]; omega
  rw [hy]
  clear hy
  go_wp2
  go_ret
  have K1 := ((((Keep.refl p w).setCell (o := 2) (.int .i64 g)).drewN 1).setCell (o := 1) (.int .i64 (i + 1)))
  refine ⟨y, rfl, hy0, hy1, ⟨K1.os, K1.tape, K1.output, K1.size, K1.block⟩, HC.out.keep ⟨K1.os, K1.tape, K1.output, K1.size, K1.block⟩, i + 1, g, HI.out, ?_⟩
  exact set3_1 (w := World.drewN _ _) (set3_2 HB.out)

theorem byte_less (w : World) (p : Nat) (a : Option Addr) (len cap : Nat) (hcode : Code w p a len) (i : Nat) (h : Int) (hi : i ≤ len) (hlt : ¬ i < len) (hb : w.heap[p]? = some (.cells #[.slice a len cap, .int .i64 i, .int .i64 h] 109 (0, 0))) :
    Calls Try.prog 96 #[.pointer (some ⟨p, 0, none⟩)] w (BytePost p a len cap w) := by
  have c0 := cell3_0 hb
  have c1 := cell3_1 hb
  have c2 := cell3_2 hb
  have z1 := free3 hb 1
  have z2 := free3 hb 2
  have HB := Lib.hid hb
  have HC := Lib.hid hcode
  clear hb
  clear hcode
  go_enter Try.func96, Try.ntmps96
  go_wp2
  generalize wrap64 (wrap64 (h * 6364136223846793005) + 1442695040888963407) = g
  go_quiet (fail)
  obtain ⟨x, hx⟩ : ∃ x, bits BinOp.and IntKind.i64 (bits BinOp.xor IntKind.i64 (g / 8589934592) (g / 140737488355328)) 255 = x := ⟨_, rfl⟩
  have hx0 : 0 ≤ x := by rw [← hx, low8]; omega
  have hx1 : x ≤ 255 := by rw [← hx, low8]; omega
  rw [hx]
  clear hx
  have hge : ¬ (i : Int) < len := by omega
  have HI := Lib.hid hi
  clear hi hlt
  go_wp2
  go_quiet (fail)
  go_wp2
  go_ret
  exact ⟨x, rfl, hx0, hx1, ((((Keep.refl p w).setCell _).drewN _).drewN _), HC.out.keep (((Keep.refl p w).setCell _).drewN _ |>.drewN _), i, g, HI.out, set3_2 HB.out⟩

theorem byte (w : World) (p : Nat) (a : Option Addr) (len cap : Nat) (hc : Cur w p a len cap) :
    Calls Try.prog 96 #[.pointer (some ⟨p, 0, none⟩)] w (BytePost p a len cap w) := by
  obtain ⟨hcode, i, h, hi, hb⟩ := hc
  by_cases hlt : i < len
  · exact byte_more w p a len cap hcode i h hlt hb
  · exact byte_less w p a len cap hcode i h hi hlt hb

def BelowPost (n : Int) (p : Nat) (a : Option Addr) (len cap : Nat) (w : World) (e : Ending) (w' : World) : Prop := ∃ x : Int, e = .returned (.int .i64 x) ∧ 0 ≤ x ∧ (0 < n → x < n) ∧ Keep p w w' ∧ Cur w' p a len cap

theorem below (n : Int) (hn : n ≤ 9223372036854775807) (w : World) (p : Nat) (a : Option Addr) (len cap : Nat) (hc : Cur w p a len cap) :
    Calls Try.prog 95 #[.pointer (some ⟨p, 0, none⟩), .int .i64 n] w (BelowPost n p a len cap w) := by
  have C0 := Lib.hid hc
  clear hc
  by_cases h1 : n ≤ 0
  · go_enter Try.func95, Try.ntmps95
    go_wp2
    go_ret
    exact ⟨0, rfl, by omega, by omega, Keep.refl _ _, C0.out⟩
  · have h0 : 1 ≤ n := by omega
    by_cases h2 : n ≤ 256
    · clear hn
      go_enter Try.func95, Try.ntmps95
      go_wp2_with (go_at_call 96; refine (byte _ p a len cap C0.out).mono ?_; rintro e w1 ⟨x, rfl, hx0, hx1, hk, hc⟩; have K1 := Lib.hid hk; have C1 := Lib.hid hc; clear hk hc)
      go_ret
      exact ⟨x % n, rfl, Int.emod_nonneg _ (by omega), fun _ => Int.emod_lt_of_pos _ (by omega), K1.out, C1.out⟩
    · go_enter Try.func95, Try.ntmps95
      go_wp2_with (go_at_call 96; refine (byte _ p a len cap C0.out).mono ?_; rintro e w1 ⟨x, rfl, hx0, hx1, hk, hc⟩; have K1 := Lib.hid hk; have C1 := Lib.hid hc; clear hk hc C0)
      go_wp2_with (go_at_call 96; refine (byte _ p a len cap C1.out).mono ?_; rintro e w2 ⟨y, rfl, hy0, hy1, hk, hc⟩; have K2 := Lib.hid (K1.out.trans hk); have C2 := Lib.hid hc; clear hk hc C1 K1)
      go_wp2_with (go_at_call 96; refine (byte _ p a len cap C2.out).mono ?_; rintro e w3 ⟨z, rfl, hz0, hz1, hk, hc⟩; have K3 := Lib.hid (K2.out.trans hk); have C3 := Lib.hid hc; clear hk hc C2 K2)
      go_ret
      exact ⟨_, rfl, Int.emod_nonneg _ (by omega), fun _ => Int.emod_lt_of_pos _ (by omega), K3.out, C3.out⟩

def OncePost (p : Nat) (a : Option Addr) (len cap : Nat) (w : World) (e : Ending) (w' : World) : Prop := ∃ b : Bool, e = .returned (.bool b) ∧ Keep p w w' ∧ Cur w' p a len cap
/-- A list of the call's own: n cells of block q, each of which holds a value for which P stands. -/
def Row (P : Value → Prop) (w : World) (p q n : Nat) : Prop := q ≠ p ∧ q < w.heap.size ∧ ∀ i, i < n → ∃ v, P v ∧ w.cell? ⟨q, i, none⟩ = some v
theorem Row.keep {P : Value → Prop} {w w' : World} {p q n : Nat} (h : Row P w p q n) (k : Keep p w w') : Row P w' p q n :=
  ⟨h.1, Nat.lt_of_lt_of_le h.2.1 k.size, fun i hi => by
    obtain ⟨v, h1, h2⟩ := h.2.2 i hi
    exact ⟨v, h1, by rw [k.cell h.2.1 h.1]; exact h2⟩⟩

def PickPost (P : Value → Prop) (p : Nat) (a : Option Addr) (len cap : Nat) (w : World) (e : Ending) (w' : World) : Prop := ∃ v, e = .returned v ∧ P v ∧ Keep p w w' ∧ Cur w' p a len cap
theorem pickInt (P : Int → Prop) (n : Nat) (hn0 : 0 < n) (hn : (n : Int) ≤ 9223372036854775807) (w : World) (p q : Nat) (a : Option Addr) (len cap cap2 : Nat) (hr : Row (fun v => ∃ z, v = .int .i64 z ∧ P z) w p q n) (hc : Cur w p a len cap) :
    Calls Try.prog 74 #[.pointer (some ⟨p, 0, none⟩), .slice (some ⟨q, 0, none⟩) n cap2] w (PickPost (fun v => ∃ z, v = .int .i64 z ∧ P z) p a len cap w) := by
  have HC := fun W => below n hn W p a len cap
  have C0 := Lib.hid hc
  have R0 := Lib.hid hr
  clear hc hr
  go_enter Try.func74, Try.ntmps74
  go_wp2_with (go_at_call 95; refine (HC _ C0.out).mono ?_; rintro e w1 ⟨x, rfl, hx0, hx1, hk, hc⟩; have R1 := Lib.hid (R0.out.keep hk); have K1 := Lib.hid hk; have C1 := Lib.hid hc; clear hk hc R0 C0 HC; (obtain ⟨m, rfl⟩ : ∃ m : Nat, x = m := ⟨x.toNat, by omega⟩); (have hm : m < n := by have := hx1 (by omega); omega); (obtain ⟨v, ⟨z, rfl, hP⟩, hv⟩ := R1.out.2.2 m hm); have HP := Lib.hid hP; clear hP hx1)
  go_ret
  exact ⟨_, rfl, ⟨z, rfl, HP.out⟩, K1.out, C1.out⟩
theorem lt_of_cell {w : World} {a : Addr} {v : Value} (h : w.cell? a = some v) : a.block < w.heap.size := by
  rcases Nat.lt_or_ge a.block w.heap.size with h1 | h1
  · exact h1
  · exfalso
    have : w.heap[a.block]? = none := Array.getElem?_eq_none h1
    simp [World.cell?, this] at h
/-- What a slice of bytes that came in gives. -/
theorem code_of_row {w : World} {a : Option Addr} {len cap : Nat} {zs : List Int} (h : kit.IsRow .u8 w a len cap zs) : Code w w.heap.size a len := by
  rcases h with ⟨rfl, rfl, rfl, rfl⟩ | ⟨x, rfl, hl, hm, hz, hc, hw⟩
  · exact ⟨by omega, fun h => absurd h (by omega)⟩
  · unfold maxLen at hm
    refine ⟨by omega, fun h => ?_⟩
    obtain ⟨b, off, rfl, hcell⟩ := ints_at hc (by omega)
    have e0 := hcell 0 (by omega)
    have hb : b < w.heap.size := lt_of_cell (a := ⟨b, off + 0, none⟩) e0
    refine ⟨b, off, rfl, by omega, hb, fun i hi => ⟨zs.getD i 0, ?_, ?_, hcell i (by omega)⟩⟩
    · have := (range_u8 hw i).1; simpa [List.getD] using this
    · have := (range_u8 hw i).2; simpa [List.getD] using this

def NewPost (a : Option Addr) (len cap : Nat) (w : World) (e : Ending) (w' : World) : Prop := e = .returned (.pointer (some ⟨w.heap.size, 0, none⟩)) ∧ Keep w.heap.size w w' ∧ w.heap.size < w'.heap.size ∧ Cur w' w.heap.size a len cap
theorem new_end (w : World) (a : Option Addr) (len cap : Nat) (h : Int) (hc : Code w w.heap.size a len) :
    NewPost a len cap w (.returned (.pointer (some ⟨w.heap.size, 0, none⟩))) (w.alloc (.cells #[.slice a len cap, .int .i64 0, .int .i64 h] 109)) := by
  have K : Keep w.heap.size w (w.alloc (.cells #[.slice a len cap, .int .i64 0, .int .i64 h] 109)) := (Keep.refl _ _).alloc _
  exact ⟨rfl, K, by simp, hc.keep K, 0, h, by omega, by show (w.heap.push _)[w.heap.size]? = _; simp⟩
theorem new (w : World) (a : Option Addr) (len cap : Nat) (hc : Code w w.heap.size a len) :
    Calls Try.prog 70 #[.slice a len cap] w (NewPost a len cap w) := by
  have HC := Lib.hid hc
  have hlen : (len : Int) ≤ 9223372036854775807 := by have := hc.1; omega
  clear hc
  go_enter Try.func70, Try.ntmps70
  go_wp2
  go_loop [3, 4] (fun g i => ∃ (k : Nat) (h : Int), k ≤ len ∧ g = .int .i64 h ∧ i = .int .i64 k) (fun _ i => len - (intOf i).toNat)
  case atStart => exact ⟨0, _, by omega, rfl, rfl⟩
  case round =>
    obtain ⟨k, h, hk, rfl, rfl⟩ := hrel
    by_cases hlt : k < len
    · have hlt2 : (k : Int) < len := by omega
      by_cases h4 : (k : Int) < 4000
      · obtain ⟨b, off, rfl, hbp, -, hcells⟩ := HC.out.2 (by omega)
        obtain ⟨z, hz0, hz1, hz⟩ := hcells k hlt
        have HI := Lib.hid hlt
        clear hcells hk hlt hlen
        go_wp2
        go_round
        case rel => exact ⟨k + 1, _, HI.out, rfl, by go_num⟩
        case measure => have := HI.out; simp [intOf]; omega
      · go_wp2
        go_ret
        exact new_end w a len cap h HC.out
    · have hlt2 : ¬ (k : Int) < len := by omega
      go_wp2
      go_ret
      exact new_end w a len cap h HC.out
end Go.Proofs.Ytmmhleobgpgliaa.draw
end

section
namespace Go.Proofs.Ytmmhleobgpgliaa.hsh
open Go.RowKit sl harn

/-- One value is folded in. -/
def step (a v : Int) : Int := (a * 1000003 + v % 2147483647 + 13) % 2147483647
theorem step_in (a v : Int) : 0 ≤ step a v ∧ step a v < 2147483647 := ⟨Int.emod_nonneg _ (by omega), Int.emod_lt_of_pos _ (by omega)⟩
/-- The hash of a list. -/
def hs (l : List Int) : Int := l.foldl step 11
theorem fold_in : ∀ (l : List Int) (a : Int), (0 ≤ a ∧ a < 2147483647) → 0 ≤ l.foldl step a ∧ l.foldl step a < 2147483647
  | [], _, h => h
  | _ :: l, _, _ => fold_in l _ (step_in _ _)
theorem hs_in (l : List Int) : 0 ≤ hs l ∧ hs l < 2147483647 := fold_in l 11 (by omega)
theorem fold_take (l : List Int) (a : Int) {k : Nat} (h : k < l.length) : (l.take (k + 1)).foldl step a = step ((l.take k).foldl step a) (l.getD k 0) := by
  rw [List.take_add_one, List.foldl_append, List.getD_eq_getElem?_getD, List.getElem?_eq_getElem h]; rfl

theorem tmod_of {p q r : Int} (hq : 1 ≤ q) (hr : p.tmod q = r) : -q < r ∧ r < q ∧ p % q = r % q := by
  have b1 : p.tmod q < q := Int.tmod_lt_of_pos p (show 0 < q by omega)
  have b2 : -q < p.tmod q := by
    have := Int.tmod_lt_of_pos (-p) (show 0 < q by omega)
    rw [Int.neg_tmod] at this; omega
  refine ⟨by omega, by omega, ?_⟩
  have e := Int.tmod_add_mul_tdiv p q
  rw [hr] at e
  conv => lhs; rw [← e]
  exact Int.add_mul_emod_self_left r q _

theorem implMod (p q : Int) (h : 1 ≤ q ∧ q ≤ 1000000000000) (w : World) :
    Calls Try.prog 88 #[.int .i64 p, .int .i64 q] w fun e w' => e = .returned (.int .i64 (p % q)) ∧ w = w' := by
  obtain ⟨h1, h2⟩ := h
  obtain ⟨r, hr⟩ : ∃ r, p.tmod q = r := ⟨_, rfl⟩
  obtain ⟨b1, b2, b3⟩ := tmod_of h1 hr
  by_cases h5 : r < 0
  · have e1 : Hid (p % q = r + q) := by
      unfold Hid
      rw [b3, ← Int.add_emod_right]; exact Int.emod_eq_of_lt (by omega) (by omega)
    clear b3
    go_enter Try.func88, Try.ntmps88
    go_wp2
    go_ret
    exact ⟨ret_num e1.out.symm, rfl⟩
  · have e1 : Hid (p % q = r) := by
      unfold Hid
      rw [b3]; exact Int.emod_eq_of_lt (by omega) (by omega)
    clear b3
    go_enter Try.func88, Try.ntmps88
    go_wp2
    go_ret
    exact ⟨ret_num e1.out.symm, rfl⟩
theorem specMod (p q : Int) (h : 1 ≤ q ∧ q ≤ 1000000000000) (w : World) :
    Calls Try.prog 18 #[.int .i64 p, .int .i64 q] w fun e w' => e = .returned (.int .i64 (p % q)) ∧ w = w' := by
  obtain ⟨h1, h2⟩ := h
  obtain ⟨r, hr⟩ : ∃ r, p.tmod q = r := ⟨_, rfl⟩
  obtain ⟨b1, b2, b3⟩ := tmod_of h1 hr
  have e1 : Hid (p % q = (r + q) % q) := by
    unfold Hid
    rw [b3, Int.add_emod_right]
  clear b3
  go_enter Try.func18, Try.ntmps18
  go_wp2
  go_ret
  exact ⟨ret_num e1.out.symm, rfl⟩

/-- The hash of what is read. -/
def HashPost (zs : List Int) (w : World) (e : Ending) (w' : World) : Prop := e = .returned (.int .i64 (hs zs)) ∧ ∃ m, w' = w.drewN m
theorem HashPost.below {zs : List Int} {w w' : World} {e : Ending} (h : HashPost zs w e w') : e = .returned (.int .i64 (hs zs)) ∧ Below w.heap.size w w' := by
  obtain ⟨h1, m, rfl⟩ := h
  exact ⟨h1, below_drews w m⟩
theorem hash_all {zs : List Int} {k n : Nat} {a : Int} (h : a = (zs.take k).foldl step 11) (hk : k = n) (hl : zs.length = n) : a = hs zs := by
  rw [h, List.take_of_length_le (by omega)]; rfl
theorem hash_next {zs : List Int} {k : Nat} {a x : Int} (h : a = (zs.take k).foldl step 11) (hk : k < zs.length) (hx : zs.getD k 0 = x) : (a * 1000003 + x % 2147483647 + 13) % 2147483647 = (zs.take (k + 1)).foldl step 11 := by
  rw [fold_take zs 11 hk, ← h, hx]; rfl
theorem hash_in {zs : List Int} {k : Nat} {a : Int} (h : a = (zs.take k).foldl step 11) : 0 ≤ a ∧ a < 2147483647 := by
  rw [h]; exact fold_in _ _ (by omega)

theorem HashPost.parts {zs : List Int} {r : Int} (ht : hs zs = r) {w : World} {e : Ending} {w' : World} (h : HashPost zs w e w') : e = .returned (.int .i64 r) ∧ Below w.heap.size w w' := by
  subst ht; exact h.below
end Go.Proofs.Ytmmhleobgpgliaa.hsh
end

section
namespace Go.Proofs.Ytmmhleobgpgliaa.reg
open Go Go.RowKit
set_option linter.unusedVariables false

/-- The slot that an operation writes. -/
def dst (ops : Array Oper) (j : Nat) : Option Tmp := (ops[j]?).bind (·.dst)
def look (a : Act) : Option Tmp → Value
  | some d => a.tmps.getD d undef
  | none => undef
/-- The slot that an operation writes, or, of one that writes none, a slot that it refers to. -/
def slot (rf : List (Nat × Tmp)) (j : Nat) : Option Tmp → Option Tmp
  | some d => some d
  | none => rf.lookup j
/-- The value of which it is said what is right. -/
def told (rf : List (Nat × Tmp)) (c : Act) (j : Nat) (v : Value) : Option Tmp → Value
  | some _ => v
  | none => look c (rf.lookup j)
/-- No way out but the normal one. -/
def QF : Exit → Act → World → Prop := fun _ _ _ => False
/-- For whatever right values of these operations. -/
def Obs (ops : Array Oper) (R : Nat → Value → World → Prop) (w : World) (body : Act → Prop) : List (Nat × Tmp) → Act → Prop
  | [], b => body b
  | (j, d) :: l, b => ∀ v, R j v w → Obs ops R w body l (b.put (some d) v)
/-- What stood there stands. -/
abbrev Bel (w w' : World) : Prop := Below w.heap.size w w'
/-- One operation's duty. E: how it may change the world. -/
def Ob (E : Nat → World → World → Prop) (rf : List (Nat × Tmp)) (P : Program) (ops : Array Oper) (R : Nat → Value → World → Prop) (C : World → Prop) (a0 : Act) (i : Nat) (o : Oper) (d : List (Nat × Tmp)) : Prop :=
  ∀ w, C w → Obs ops R w (fun c => ∀ K : Act → World → Prop, (∀ v w', R i (told rf c i v o.dst) w' → E i w w' → K (c.put o.dst v) w') →
    if Region.wanted o (yielded ops c.tmps) = true then Oper.wp P o c w K QF else K (c.put o.dst undef) w) d a0
/-- All duties: one for each operation for which a list stands. -/
def All (E : Nat → World → World → Prop) (rf : List (Nat × Tmp)) (P : Program) (ops : Array Oper) (R : Nat → Value → World → Prop) (C : World → Prop) (a0 : Act) : Nat → List Oper → List (Option (List (Nat × Tmp))) → Prop
  | i, o :: l, some d :: nd => Ob E rf P ops R C a0 i o d ∧ All E rf P ops R C a0 (i + 1) l nd
  | i, _ :: l, none :: nd => All E rf P ops R C a0 (i + 1) l nd
  | _, _, _ => True

/-- What is right of a value and stays so. -/
def Stay (E : World → World → Prop) : Type := { p : Value → World → Prop // ∀ v w w', p v w → E w w' → p v w' }
def is {E : World → World → Prop} (x : Value) : Stay E := ⟨fun v _ => v = x, fun _ _ _ h _ => h⟩
/-- What is right of a value alone. -/
def val {E : World → World → Prop} (p : Value → Prop) : Stay E := ⟨fun v _ => p v, fun _ _ _ h _ => h⟩
def free {E : World → World → Prop} : Stay E := ⟨fun _ _ => True, fun _ _ _ _ _ => trivial⟩
def rl {E : World → World → Prop} (l : List (Stay E)) : Nat → Value → World → Prop := fun i v w => (l.getD i free).1 v w
theorem rl_keep {E : World → World → Prop} (l : List (Stay E)) : ∀ j v w w', rl l j v w → E w w' → rl l j v w' := fun j v w w' h hb => (l.getD j free).2 v w w' h hb

theorem edge_of {ops : Array Oper} {j i : Nat} {oj : Oper} (h : Region.waitsFor .any ops j i = true) (hj : ops[j]? = some oj) : ∃ e ∈ oj.after, Region.binds .any e = true ∧ e.on = i := by
  obtain ⟨o, ho, h2⟩ := Region.waitsFor_spec h
  obtain rfl := Option.some.inj (ho.symm.trans hj)
  exact h2
/-- The region's form. s: where the operations begin that end it, each behind the one before it, or a number beyond; N: how many slots; nd: whose values each operation looks at. -/
def okB (ops : Array Oper) (s N : Nat) (rf : List (Nat × Tmp)) (nd : List (Option (List (Nat × Tmp)))) : Bool :=
  let n := ops.size
  Region.noSelect ops &&
  (List.range n).all (fun i => (ops.getD i default).after.all fun e => !Region.binds .any e || decide (e.on < i)) &&
  (List.range n).all (fun i => (List.range n).all fun j => i == j || (dst ops i).isNone || dst ops i != dst ops j) &&
  (List.range n).all (fun i => match dst ops i with | some d => decide (d < N) | none => true) &&
  (decide (n ≤ s) || (List.range s).all fun i => (List.range (s + 1)).any fun j => decide (i < j) && Region.waitsFor .any ops j i) &&
  (List.range n).all (fun t => decide (t ≤ s) || Region.waitsFor .any ops t (t - 1)) &&
  rf.all (fun x => (dst ops x.1).isNone && (nd.getD x.1 none).any (fun d => d.any fun j => j.2 == x.2) && decide (x.1 < s)) &&
  (List.range n).all (fun i => decide (s ≤ i) || match nd[i]? with
    | some (some d) => d.all (fun j => Region.waitsFor .any ops i j.1 && dst ops j.1 == some j.2 && decide (j.1 < s)) && ((ops.getD i default).looksAt ops).all fun k => d.any (fun j => j.2 == k) || (List.range s).all fun j => dst ops j != some k
    | _ => false)

theorem all_get {E : Nat → World → World → Prop} {rf : List (Nat × Tmp)} {P : Program} {ops : Array Oper} {R : Nat → Value → World → Prop} {C : World → Prop} {a0 : Act} : ∀ (l : List Oper) (nd : List (Option (List (Nat × Tmp)))) (k : Nat), All E rf P ops R C a0 k l nd → ∀ (i : Nat) (o : Oper) (d : List (Nat × Tmp)), l[i]? = some o → nd[i]? = some (some d) → Ob E rf P ops R C a0 (k + i) o d
  | [], _, _, _, i, o, d, ho, _ => by simp at ho
  | o :: l, [], _, _, i, _, d, _, hd => by simp at hd
  | o :: l, none :: nd, k, h, 0, _, d, _, hd => by simp at hd
  | o :: l, none :: nd, k, h, i + 1, o', d, ho, hd => by
    have := all_get l nd (k + 1) h i o' d (by simpa using ho) (by simpa using hd)
    rwa [show k + 1 + i = k + (i + 1) by omega] at this
  | o :: l, some e :: nd, k, h, 0, o', d, ho, hd => by
    simp at ho hd
    subst ho hd
    exact h.1
  | o :: l, some e :: nd, k, h, i + 1, o', d, ho, hd => by
    have := all_get l nd (k + 1) h.2 i o' d (by simpa using ho) (by simpa using hd)
    rwa [show k + 1 + i = k + (i + 1) by omega] at this

section
variable {P : Program} {ops : Array Oper} {Q : Exit → Act → World → Prop} {C : World → Prop} {R : Nat → Value → World → Prop} {a0 : Act} {E : Nat → World → World → Prop} {rf : List (Nat × Tmp)}

/-- The frame b with the slots of these operations as they are in a. -/
def puts (ops : Array Oper) (a : Act) : List (Nat × Tmp) → Act → Act
  | [], b => b
  | (j, d) :: l, b => puts ops a l (b.put (some d) (look a (some d)))
theorem obs_puts {w : World} {body : Act → Prop} {a : Act} : ∀ (l : List (Nat × Tmp)) (b : Act), Obs ops R w body l b → (∀ j ∈ l, R j.1 (look a (some j.2)) w) → body (puts ops a l b)
  | [], _, h, _ => h
  | (j, d) :: l, b, h, hR => obs_puts l _ (h _ (hR (j, d) (by simp))) fun k hk => hR k (by simp [hk])
theorem obs_mono {w : World} {f g : Act → Prop} (h : ∀ c, f c → g c) : ∀ (l : List (Nat × Tmp)) (b : Act), Obs ops R w f l b → Obs ops R w g l b
  | [], b, hh => h b hh
  | (_, _) :: l, b, hh => fun v hv => obs_mono h l _ (hh v hv)
theorem put_size (a : Act) (x : Option Tmp) (v : Value) : (a.put x v).tmps.size = a.tmps.size := by cases x <;> simp [Act.put]
theorem put_defers (a : Act) (x : Option Tmp) (v : Value) : (a.put x v).defers = a.defers := by cases x <;> rfl
theorem put_ne {a : Act} {x : Option Tmp} {v : Value} {k : Nat} (h : x ≠ some k) : (a.put x v).tmps.getD k undef = a.tmps.getD k undef := by
  cases x with
  | none => rfl
  | some d =>
    have hne : d ≠ k := fun e => h (by rw [e])
    simp [Act.put, Array.getElem?_setIfInBounds_ne hne]
theorem put_at {a : Act} {v : Value} {k : Nat} (h : k < a.tmps.size) : (a.put (some k) v).tmps.getD k undef = v := by
  simp [Act.put, h]
theorem beyond {a : Act} {k : Nat} (h : ¬ k < a.tmps.size) : a.tmps.getD k undef = undef := by
  simp [Array.getElem?_eq_none (Nat.le_of_not_lt h)]
theorem puts_size (a : Act) : ∀ (l : List (Nat × Tmp)) (b : Act), (puts ops a l b).tmps.size = b.tmps.size
  | [], _ => rfl
  | (j, d) :: l, b => by rw [puts, puts_size a l, put_size]
theorem puts_defers (a : Act) : ∀ (l : List (Nat × Tmp)) (b : Act), (puts ops a l b).defers = b.defers
  | [], _ => rfl
  | (j, d) :: l, b => by rw [puts, puts_defers a l, put_defers]
theorem puts_kept (a : Act) {k : Nat} : ∀ (l : List (Nat × Tmp)) (b : Act), a.tmps.size = b.tmps.size → b.tmps.getD k undef = a.tmps.getD k undef → (puts ops a l b).tmps.getD k undef = a.tmps.getD k undef
  | [], _, _, h => h
  | (j, d) :: l, b, hs, h => by
    rw [puts]
    refine puts_kept a l _ (by rw [put_size]; exact hs) ?_
    by_cases hk : d = k
    · rw [hk]
      by_cases hlt : k < b.tmps.size
      · rw [put_at hlt]; rfl
      · rw [beyond (by rw [put_size]; exact hlt), beyond (a := a) (by omega)]
    · rw [put_ne (by simpa using hk)]; exact h
theorem puts_in (a : Act) {k : Nat} : ∀ (l : List (Nat × Tmp)) (b : Act), a.tmps.size = b.tmps.size → (∃ j ∈ l, j.2 = k) → (puts ops a l b).tmps.getD k undef = a.tmps.getD k undef
  | [], _, _, h => by obtain ⟨j, hj, _⟩ := h; cases hj
  | (j, d) :: l, b, hs, h => by
    rw [puts]
    by_cases hk : d = k
    · refine puts_kept a l _ (by rw [put_size]; exact hs) ?_
      rw [hk]
      by_cases hlt : k < b.tmps.size
      · rw [put_at hlt]; rfl
      · rw [beyond (by rw [put_size]; exact hlt), beyond (a := a) (by omega)]
    · refine puts_in a l _ (by rw [put_size]; exact hs) ?_
      obtain ⟨i, hi, he⟩ := h
      rcases List.mem_cons.1 hi with rfl | hi
      · exact absurd he hk
      · exact ⟨i, hi, he⟩
theorem act_eq {a b : Act} (h1 : a.tmps.size = b.tmps.size) (h2 : ∀ k, a.tmps.getD k undef = b.tmps.getD k undef) (h3 : a.defers = b.defers) : a = b := by
  obtain ⟨t, d⟩ := a
  obtain ⟨t', d'⟩ := b
  simp only at h1 h2 h3
  subst h3
  have : t = t' := Array.ext h1 fun i hi hi' => by
    have := h2 i
    simp [hi, hi'] at this
    exact this
  rw [this]

/-- Two frames that agree where an operation looks. -/
theorem exec_same {o : Oper} {a c : Act} (hs : ∀ cs b, o.op ≠ .select cs b) (h : ∀ k ∈ o.looksAt ops, a.tmps.getD k undef = c.tmps.getD k undef) : execOp a.eval o = execOp c.eval o :=
  execOp_congr o hs fun x hx => by
    cases x with
    | tmp t => exact h t (List.mem_append_left _ (List.mem_filterMap.2 ⟨.tmp t, by simpa using hx, rfl⟩))
    | _ => rfl
theorem wanted_same {o : Oper} {a c : Act} (hz : a.tmps.size = c.tmps.size) (h : ∀ k ∈ o.looksAt ops, a.tmps.getD k undef = c.tmps.getD k undef) : Region.wanted o (yielded ops a.tmps) = Region.wanted o (yielded ops c.tmps) := by
  unfold Region.wanted
  cases hg : o.guard with
  | none => rfl
  | some gw =>
    obtain ⟨g, want⟩ := gw
    have hy : yielded ops a.tmps g = yielded ops c.tmps g := by
      unfold yielded
      cases ht : (ops[g]?).bind (·.dst) with
      | none => rfl
      | some t =>
        have := h t (List.mem_append_right _ (by rw [hg]; simp [ht]))
        have e : a.tmps[t]? = c.tmps[t]? := by
          by_cases hlt : t < a.tmps.size
          · have hlt' : t < c.tmps.size := hz ▸ hlt
            simp [hlt, hlt'] at this ⊢
            exact this
          · rw [Array.getElem?_eq_none (Nat.le_of_not_lt hlt), Array.getElem?_eq_none (Nat.le_of_not_lt (hz ▸ hlt))]
        simp [e]
    simp [hy]
/-- An operation's way, from one frame to another that agrees where it looks. -/
theorem upon_move {o : Oper} {a c : Act} {K K' : Act → World → Prop} {r : Result Next} (hk : ∀ v w', K (c.put o.dst v) w' → K' (a.put o.dst v) w') (hd : ∀ d w', ¬ K ({ c with defers := d :: c.defers }.put o.dst undef) w')
    (h : o.upon P c K QF r) : o.upon P a K' Q r := by
  cases r with
  | ok n w' =>
    cases n <;> simp only [Oper.upon] at h ⊢
    case value u => exact hk _ _ h
    case skip => exact hk _ _ h
    case defer d => exact absurd h (hd _ _)
    case enter f args =>
      refine Calls.mono h fun e w'' he => ?_
      cases e with
      | returned u => exact hk _ _ he
      | panicked c => exact he.elim
      | outgrown => obtain ⟨_, _, he⟩ := he; exact he.elim
    case row row args => exact Rows.mono h fun u w'' he => hk _ _ he
  | halt x w' =>
    cases x <;> simp only [Oper.upon] at h ⊢
    case panic u => exact h.elim

structure Inv (rf : List (Nat × Tmp)) (C : World → Prop) (R : Nat → Value → World → Prop) (ops : Array Oper) (a0 : Act) (s : Nat) (L : Array Bool) (a : Act) (w : World) : Prop where
  c : C w
  len : L.size = ops.size
  closed : ∀ j oj, ops[j]? = some oj → L.getD j false = true → ∀ e ∈ oj.after, Region.binds .any e = true → L.getD e.on false = true
  tail : ∀ t, s ≤ t → L.getD t false = false
  defers : a.defers = a0.defers
  size : a.tmps.size = a0.tmps.size
  base : ∀ k, (∀ j, L.getD j false = true → dst ops j ≠ some k) → a.tmps.getD k undef = a0.tmps.getD k undef
  right : ∀ j, L.getD j false = true → (slot rf j (dst ops j)).isSome = true → R j (look a (slot rf j (dst ops j))) w

theorem set_at {L : Array Bool} {j : Nat} (hj : j < L.size) : (L.setIfInBounds j true).getD j false = true := by simp [hj]

/-- What the Bool says. -/
structure Ok (ops : Array Oper) (s N : Nat) (rf : List (Nat × Tmp)) (nd : List (Option (List (Nat × Tmp)))) : Prop where
  sel : Region.noSelect ops = true
  back : ∀ i o, ops[i]? = some o → ∀ e ∈ o.after, Region.binds .any e = true → e.on < i
  apart : ∀ i j d, i < ops.size → j < ops.size → i ≠ j → dst ops i = some d → dst ops j ≠ some d
  room : ∀ i d, dst ops i = some d → d < N
  ends : s < ops.size → ∀ i, i < s → ∃ j, j ≤ s ∧ i < j ∧ Region.waitsFor .any ops j i = true
  chain : ∀ t, s < t → t < ops.size → Region.waitsFor .any ops t (t - 1) = true
  refs : ∀ j d, rf.lookup j = some d → dst ops j = none ∧ j < s ∧ ∃ l k, nd[j]? = some (some l) ∧ (k, d) ∈ l
  need : ∀ i o, ops[i]? = some o → i < s → ∃ d, nd[i]? = some (some d) ∧ (∀ j ∈ d, Region.waitsFor .any ops i j.1 = true ∧ dst ops j.1 = some j.2 ∧ j.1 < s) ∧
    ∀ k ∈ o.looksAt ops, (∃ j ∈ d, j.2 = k) ∨ ∀ j, j < s → dst ops j ≠ some k
theorem dst_lt {j : Nat} {d : Tmp} (h : dst ops j = some d) : j < ops.size := by
  unfold dst at h
  rcases Nat.lt_or_ge j ops.size with h' | h'
  · exact h'
  · rw [Array.getElem?_eq_none h'] at h; cases h
theorem ok_of {s N : Nat} {nd : List (Option (List (Nat × Tmp)))} (h : okB ops s N rf nd = true) : Ok ops s N rf nd := by
  unfold okB at h
  simp only [Bool.and_eq_true] at h
  obtain ⟨⟨⟨⟨⟨⟨⟨h1, h4⟩, h5⟩, h6⟩, h7⟩, h9⟩, ha⟩, h8⟩ := h
  have lt_of : ∀ {i : Nat} {o : Oper}, ops[i]? = some o → i < ops.size ∧ ops.getD i default = o := fun {i o} ho => by
    have hi := (Array.getElem?_eq_some_iff.1 ho).1
    exact ⟨hi, by simp [ho]⟩
  refine ⟨h1, fun i o ho e he hb => ?_, fun i j d hi hj hne he => ?_, fun i d hd => ?_, fun hs i hi => ?_, fun t ht hn => ?_, fun j d hl => ?_, fun i o ho hne => ?_⟩
  · obtain ⟨hi, e0⟩ := lt_of ho
    have := List.all_eq_true.1 h4 i (List.mem_range.2 hi)
    rw [e0] at this
    have := Array.all_eq_true_iff_forall_mem.1 this e he
    simpa [hb] using this
  · have := List.all_eq_true.1 (List.all_eq_true.1 h5 i (List.mem_range.2 hi)) j (List.mem_range.2 hj)
    simp [hne, he] at this
    exact fun e => this e.symm
  · have := List.all_eq_true.1 h6 i (List.mem_range.2 (dst_lt hd))
    rw [hd] at this
    simpa using this
  · simp only [Bool.or_eq_true, decide_eq_true_eq] at h7
    rcases h7 with h7 | h7
    · omega
    · obtain ⟨j, hj, hb⟩ := List.any_eq_true.1 (List.all_eq_true.1 h7 i (List.mem_range.2 hi))
      simp only [Bool.and_eq_true, decide_eq_true_eq] at hb
      exact ⟨j, by have := List.mem_range.1 hj; omega, hb.1, hb.2⟩
  · have := List.all_eq_true.1 h9 t (List.mem_range.2 hn)
    simp only [Bool.or_eq_true, decide_eq_true_eq] at this
    rcases this with this | this
    · omega
    · exact this
  · have hm : (j, d) ∈ rf := by
      clear ha h8
      induction rf with
      | nil => cases hl
      | cons x l ih =>
        obtain ⟨x1, x2⟩ := x
        rw [List.lookup_cons] at hl
        split at hl
        · rename_i he
          have he' : j = x1 := by simpa using he
          rw [he', (Option.some.inj hl)]; exact List.mem_cons_self
        · exact List.mem_cons_of_mem _ (ih hl)
    have h := List.all_eq_true.1 ha _ hm
    simp only [Bool.and_eq_true, decide_eq_true_eq, Option.isNone_iff_eq_none] at h
    obtain ⟨⟨h2, h3⟩, hs⟩ := h
    refine ⟨h2, hs, ?_⟩
    rcases Nat.lt_or_ge j nd.length with hj | hj
    · have e : nd.getD j none = nd[j] := by simp [hj]
      rw [e] at h3
      cases hx : nd[j] with
      | none => rw [hx] at h3; cases h3
      | some l =>
        rw [hx] at h3
        obtain ⟨k, hk, he⟩ := List.any_eq_true.1 (by simpa using h3 : l.any (fun k => k.2 == d) = true)
        have he' : k.2 = d := by simpa using he
        exact ⟨l, k.1, by rw [List.getElem?_eq_getElem hj, hx], by rw [← he']; exact hk⟩
    · simp [List.getElem?_eq_none hj] at h3
  · obtain ⟨hi, e0⟩ := lt_of ho
    have := List.all_eq_true.1 h8 i (List.mem_range.2 hi)
    simp only [Bool.or_eq_true, decide_eq_true_eq] at this
    rcases this with this | this
    · omega
    · split at this
      · rename_i d hd
        simp only [Bool.and_eq_true] at this
        refine ⟨d, hd, fun j hj => ?_, fun k hk => ?_⟩
        · have h := List.all_eq_true.1 this.1 j hj
          simp only [Bool.and_eq_true, decide_eq_true_eq, beq_iff_eq] at h
          exact ⟨h.1.1, h.1.2, h.2⟩
        · have h := this.2
          rw [e0] at h
          have h := List.all_eq_true.1 h k hk
          simp only [Bool.or_eq_true] at h
          rcases h with h | h
          · obtain ⟨j, hj, hb⟩ := List.any_eq_true.1 h
            exact .inl ⟨j, hj, by simpa using hb⟩
          · refine .inr fun j hjs he => ?_
            have h := List.all_eq_true.1 h j (List.mem_range.2 hjs)
            rw [he] at h
            simp at h
      · cases this

/-- What is not yet done waits for nothing but what is not yet done: something may come up. -/
theorem some_ready {s N : Nat} {nd : List (Option (List (Nat × Tmp)))} (H : Ok ops s N rf nd) {L : Array Bool} (hl : L.size = ops.size) : ∀ (m j : Nat), j < m → j < ops.size → L.getD j true = false → Region.ready .any ops L ≠ []
  | 0, j, hjm, _, _ => by omega
  | m + 1, j, hjm, hj, hun => by
    by_cases hr : j ∈ Region.ready .any ops L
    · exact fun h => by rw [h] at hr; cases hr
    · have ho : ops[j]? = some ops[j] := Array.getElem?_eq_getElem hj
      have : ∃ e ∈ (ops[j]).after, Region.binds .any e = true ∧ L.getD e.on false = false := by
        refine Classical.byContradiction fun hn => hr (mem_ready.2 ⟨hun, _, ho, fun e he hb => ?_⟩)
        cases hx : L.getD e.on false with
        | true => rfl
        | false => exact absurd ⟨e, he, hb, hx⟩ hn
      obtain ⟨e, he, hb, hx⟩ := this
      have hlt := H.back j _ ho e he hb
      exact some_ready H hl m e.on (by omega) (by omega) (getD_in (by omega) hx)
/-- What ends the region begins when all others are done. -/
theorem tail_last {s N : Nat} {nd : List (Option (List (Nat × Tmp)))} (H : Ok ops s N rf nd) {L : Array Bool} {a : Act} {w : World} (I : Inv rf C R ops a0 s L a w) (hs : s ∈ Region.ready .any ops L) : ∀ (m i : Nat), s - i < m → i < s → L.getD i false = true
  | 0, i, h, _ => by omega
  | m + 1, i, h, hi => by
    obtain ⟨_, os, hos, hall⟩ := mem_ready.1 hs
    have hsl : s < ops.size := (Array.getElem?_eq_some_iff.1 hos).1
    cases hx : L.getD i false with
    | true => rfl
    | false =>
      exfalso
      obtain ⟨j, hj, hij, hw⟩ := H.ends hsl i hi
      by_cases hjs : j = s
      · subst hjs
        obtain ⟨e, he, hb, hon⟩ := edge_of hw hos
        have := hall e he hb
        rw [hon, hx] at this; cases this
      · have h2 := tail_last H I hs m j (by omega) (by omega)
        have hoj : ops[j]? = some (ops[j]'(by omega)) := Array.getElem?_eq_getElem (by omega)
        obtain ⟨e, he, hb, hon⟩ := edge_of hw hoj
        have := I.closed j _ hoj h2 e he hb
        rw [hon, hx] at this; cases this
theorem no_tail {s N : Nat} {nd : List (Option (List (Nat × Tmp)))} (H : Ok ops s N rf nd) {L : Array Bool} {a : Act} {w : World} (I : Inv rf C R ops a0 s L a w) {t : Nat} (ht : s < t) (hr : t ∈ Region.ready .any ops L) : False := by
  obtain ⟨_, o, ho, hall⟩ := mem_ready.1 hr
  obtain ⟨e, he, hb, hon⟩ := edge_of (H.chain t ht (Array.getElem?_eq_some_iff.1 ho).1) ho
  have := hall e he hb
  rw [hon, I.tail (t - 1) (by omega)] at this; cases this

/-- The numbers of the operations that are to be done, and their slots. -/
def heads (ops : Array Oper) (s : Nat) : List (Nat × Tmp) := (List.range s).filterMap fun j => (dst ops j).map fun d => (j, d)
theorem mem_heads {s : Nat} {x : Nat × Tmp} (h : x ∈ heads ops s) : x.1 < s ∧ dst ops x.1 = some x.2 := by
  obtain ⟨j, hr, hj⟩ := List.mem_filterMap.1 h
  obtain ⟨d, hd, rfl⟩ := Option.map_eq_some_iff.1 hj
  exact ⟨List.mem_range.1 hr, hd⟩
theorem to_heads {s j : Nat} {d : Tmp} (h1 : j < s) (h3 : dst ops j = some d) : (j, d) ∈ heads ops s :=
  List.mem_filterMap.2 ⟨j, List.mem_range.2 h1, by rw [h3]; rfl⟩
theorem all_done {s N : Nat} {nd : List (Option (List (Nat × Tmp)))} (H : Ok ops s N rf nd) {L : Array Bool} {a : Act} {w : World} (I : Inv rf C R ops a0 s L a w) (hd : ∀ i, i < s → i < ops.size → L.getD i false = true) {body : Act → Prop}
    (h : Obs ops R w body (heads ops s) a0) : body a := by
  have h1 := obs_puts (a := a) _ _ h fun j hj => by
    obtain ⟨h2, h4⟩ := mem_heads hj
    have := I.right j.1 (hd j.1 h2 (dst_lt h4)) (by rw [h4]; rfl)
    rwa [h4] at this
  have e : puts ops a (heads ops s) a0 = a := act_eq (by rw [puts_size]; exact I.size.symm) (fun k => by
    by_cases hk : ∃ j ∈ heads ops s, j.2 = k
    · exact puts_in a _ _ I.size hk
    · exact puts_kept a _ _ I.size (I.base k fun j hl he => hk ⟨(j, k), to_heads (by
        rcases Nat.lt_or_ge j s with h' | h'
        · exact h'
        · rw [I.tail j h'] at hl; cases hl) he, rfl⟩).symm) (by rw [puts_defers]; exact I.defers.symm)
  rwa [e] at h1
/-- One step. -/
theorem inv_step {s N : Nat} {nd : List (Option (List (Nat × Tmp)))} (H : Ok ops s N rf nd) (hN : a0.tmps.size = N) (hC : ∀ i w w', C w → E i w w' → C w') (hR : ∀ i j v w w', i ≠ j → R j v w → E i w w' → R j v w')
    {L : Array Bool} {a : Act} {w : World} (I : Inv rf C R ops a0 s L a w) {i : Nat} {o : Oper} (ho : ops[i]? = some o) (his : i < s) (hr : i ∈ Region.ready .any ops L) {v : Value} {w' : World} (hv : (slot rf i (dst ops i)).isSome = true → R i (told rf a i v (dst ops i)) w') (hb : E i w w') :
    Inv rf C R ops a0 s (L.setIfInBounds i true) (a.put o.dst v) w' := by
  obtain ⟨hun, o', ho', hall⟩ := mem_ready.1 hr
  obtain rfl : o' = o := Option.some.inj (ho'.symm.trans ho)
  have hd : dst ops i = o'.dst := by unfold dst; rw [ho]; rfl
  have hi : i < ops.size := (Array.getElem?_eq_some_iff.1 ho).1
  have hiL : i < L.size := by rw [I.len]; exact hi
  refine ⟨hC _ _ _ I.c hb, by simp [I.len], fun j oj hj hl e he hbi => ?_, fun t ht => by rw [getD_set_ne false (by omega)]; exact I.tail t ht, by rw [put_defers]; exact I.defers, by rw [put_size]; exact I.size, fun k hk => ?_, fun j hl hsm => ?_⟩
  · by_cases hij : i = j
    · subst hij
      obtain rfl : oj = o' := Option.some.inj (hj.symm.trans ho)
      exact getD_set_true (hall e he hbi)
    · rw [getD_set_ne false hij] at hl
      exact getD_set_true (I.closed j oj hj hl e he hbi)
  · have hik : dst ops i ≠ some k := hk i (set_at hiL)
    rw [put_ne (by rw [← hd]; exact hik)]
    exact I.base k fun j hl => hk j (getD_set_true hl)
  · by_cases hij : i = j
    · subst hij
      have hv' := hv hsm
      cases hdd : dst ops i with
      | some d =>
        rw [hdd] at hv'
        have : look (a.put o'.dst v) (slot rf i (some d)) = v := by
          rw [← hd, hdd]
          exact put_at (by rw [I.size, hN]; exact H.room i d hdd)
        rw [this]; exact hv'
      | none =>
        rw [hdd] at hv'
        have : look (a.put o'.dst v) (slot rf i none) = look a (rf.lookup i) := by rw [← hd, hdd]; rfl
        rw [this]; exact hv'
    · rw [getD_set_ne false hij] at hl
      have keep : look (a.put o'.dst v) (slot rf j (dst ops j)) = look a (slot rf j (dst ops j)) := by
        cases hdd : dst ops j with
        | some d => exact put_ne fun e => H.apart j i d (dst_lt hdd) hi (Ne.symm hij) hdd (by rw [hd]; exact e)
        | none =>
          cases hrf : rf.lookup j with
          | none => simp only [slot, hrf, look]
          | some d =>
            simp only [slot, hrf]
            obtain ⟨_, hjs, l, k, hl1, hkl⟩ := H.refs j d hrf
            have hjn : j < ops.size := by
              rcases Nat.lt_or_ge j ops.size with h' | h'
              · exact h'
              · simp [Array.getElem?_eq_none (show L.size ≤ j by rw [I.len]; exact h')] at hl
            have hoj : ops[j]? = some ops[j] := Array.getElem?_eq_getElem hjn
            obtain ⟨l', hl2, hdep, _⟩ := H.need j _ hoj hjs
            obtain rfl : l' = l := by simpa using hl2.symm.trans hl1
            obtain ⟨h1, h2, _⟩ := hdep (k, d) hkl
            obtain ⟨e, he, hbi, hon⟩ := edge_of h1 hoj
            have hkL := I.closed j _ hoj hl e he hbi
            rw [hon] at hkL
            refine put_ne fun e => ?_
            have hki : k ≠ i := fun e => by subst e; rw [getD_both hun] at hkL; cases hkL
            exact H.apart k i d (dst_lt h2) hi hki h2 (by rw [hd]; exact e)
      rw [keep]
      exact hR i j _ _ _ hij (I.right j hl hsm) hb

theorem step_op {l : List Oper} {s N : Nat} {nd : List (Option (List (Nat × Tmp)))} (H : Ok l.toArray s N rf nd) (hN : a0.tmps.size = N) (hC : ∀ i w w', C w → E i w w' → C w') (hR : ∀ i j v w w', i ≠ j → R j v w → E i w w' → R j v w')
    (hA : All E rf P l.toArray R C a0 0 l nd) {L : Array Bool} {a : Act} {w : World} (I : Inv rf C R l.toArray a0 s L a w) {i : Nat} (his : i < s) (hr : i ∈ Region.ready .any l.toArray L) {K : Act → World → Prop}
    (hK : ∀ a' w', Inv rf C R l.toArray a0 s (L.setIfInBounds i true) a' w' → K a' w') : wpOp P l.toArray Q i K a w := by
  obtain ⟨hun, o, ho, hall⟩ := mem_ready.1 hr
  have hd : dst l.toArray i = o.dst := by unfold dst; rw [ho]; rfl
  obtain ⟨d, hnd, hdep, hlook⟩ := H.need i o ho his
  have hlist : ∀ j ∈ d, L.getD j.1 false = true := fun j hj => by
    obtain ⟨e, he, hb, hon⟩ := edge_of (hdep j hj).1 ho
    rw [← hon]; exact hall e he hb
  have hob : Ob E rf P l.toArray R C a0 i o d := by
    have := all_get l nd 0 hA i o d (by simpa using ho) hnd
    rwa [Nat.zero_add] at this
  have hc := obs_puts (a := a) _ _ (hob w I.c) fun j hj => by
    have := I.right j.1 (hlist j hj) (by rw [(hdep j hj).2.1]; rfl)
    rwa [(hdep j hj).2.1] at this
  have hcs : (puts l.toArray a d a0).tmps.size = a.tmps.size := by rw [puts_size]; exact I.size.symm
  have hag : ∀ k ∈ o.looksAt l.toArray, a.tmps.getD k undef = (puts l.toArray a d a0).tmps.getD k undef := fun k hk => by
    rcases hlook k hk with h | h
    · exact (puts_in a d a0 I.size h).symm
    · refine (puts_kept a d a0 I.size (I.base k fun j hl => h j ?_).symm).symm
      rcases Nat.lt_or_ge j s with h' | h'
      · exact h'
      · rw [I.tail j h'] at hl; cases hl
  have hsel := Region.noSelect_spec H.sel i o
  have h1 := hc (fun a' w' => ∃ v, a' = (puts l.toArray a d a0).put o.dst v ∧ R i (told rf (puts l.toArray a d a0) i v o.dst) w' ∧ E i w w') fun v w' h2 h3 => ⟨v, rfl, h2, h3⟩
  have fin : ∀ v w', (∃ v', (puts l.toArray a d a0).put o.dst v = (puts l.toArray a d a0).put o.dst v' ∧ R i (told rf (puts l.toArray a d a0) i v' o.dst) w' ∧ E i w w') → K (a.put o.dst v) w' := fun v w' ⟨v', e, h2, h3⟩ =>
    hK _ _ (inv_step H hN hC hR I ho his hr (fun hsm => by
      rw [hd] at hsm ⊢
      cases hx' : o.dst with
      | some x =>
        rw [hx'] at e h2
        have hx : dst l.toArray i = some x := by rw [hd]; exact hx'
        have hlt : x < (puts l.toArray a d a0).tmps.size := by rw [puts_size, hN]; exact H.room i x hx
        have h4 : ((puts l.toArray a d a0).put (some x) v).tmps.getD x undef = ((puts l.toArray a d a0).put (some x) v').tmps.getD x undef := by rw [e]
        rw [put_at hlt, put_at hlt] at h4
        show R i v w'
        rw [h4]; exact h2
      | none =>
        rw [hx'] at h2 hsm
        show R i (look a (rf.lookup i)) w'
        have h2' : R i (look (puts l.toArray a d a0) (rf.lookup i)) w' := h2
        obtain ⟨x, hx⟩ := Option.isSome_iff_exists.1 hsm
        have hx2 : rf.lookup i = some x := hx
        rw [hx2] at h2' ⊢
        obtain ⟨_, _, l', k, hl1, hkl⟩ := H.refs i x hx2
        obtain rfl : l' = d := by simpa using hl1.symm.trans hnd
        have e2 : (puts l.toArray a l' a0).tmps.getD x undef = a.tmps.getD x undef := puts_in a l' a0 I.size ⟨(k, x), hkl, rfl⟩
        have e3 : look (puts l.toArray a l' a0) (some x) = look a (some x) := e2
        rw [← e3]; exact h2') h3)
  unfold wpOp
  rw [ho]
  simp only
  rw [wanted_same hcs.symm hag]
  split
  · rename_i hw
    rw [if_pos hw] at h1
    refine .inl ?_
    unfold Oper.wp at h1 ⊢
    rw [exec_same (fun cs b => hsel cs b ho) hag]
    refine upon_move fin (fun dd w' hh => ?_) h1
    obtain ⟨v', e, _⟩ := hh
    have := congrArg Act.defers e
    rw [put_defers, put_defers] at this
    exact absurd (congrArg List.length this) (by simp)
  · rename_i hw
    rw [if_neg hw] at h1
    exact fin _ _ h1

theorem count_set {L : Array Bool} {i : Nat} (h : L.getD i true = false) : (L.setIfInBounds i true).toList.count false + 1 = L.toList.count false := by
  have hi : i < L.size := by
    rcases Nat.lt_or_ge i L.size with h' | h'
    · exact h'
    · simp [Array.getElem?_eq_none h'] at h
  have hx : L[i] = false := by simpa [hi] using h
  have hm : false ∈ L.toList := by rw [← hx]; simp
  have hpos : 0 < L.toList.count false := List.count_pos_iff.2 hm
  rw [Array.toList_setIfInBounds, List.count_set (by simpa using hi)]
  have e : (L.toList[i]'(by simpa using hi) == false) = true := by simp [hx]
  rw [if_pos e, if_neg (by decide)]
  omega
theorem none_left {L : Array Bool} (h : L.toList.count false = 0) (i : Nat) : L.getD i true = true := by
  rcases Nat.lt_or_ge i L.size with h' | h'
  · have := List.count_eq_zero.1 h
    cases hx : L[i] with
    | true => simp [h', hx]
    | false => exact absurd (show false ∈ L.toList by rw [← hx]; simp) this
  · simp [Array.getElem?_eq_none h']

/-- A region without an end of its own, from any state. -/
theorem any_plain {l : List Oper} {N : Nat} {nd : List (Option (List (Nat × Tmp)))} (H : Ok l.toArray l.length N rf nd) (hN : a0.tmps.size = N) (hC : ∀ i w w', C w → E i w w' → C w') (hR : ∀ i j v w w', i ≠ j → R j v w → E i w w' → R j v w')
    (hA : All E rf P l.toArray R C a0 0 l nd) (hF : ∀ w, C w → Obs l.toArray R w (fun c => (∀ x ∈ rf, rf.lookup x.1 = some x.2 → R x.1 (look c (some x.2)) w) → Q .normal c w) (heads l.toArray l.length) a0) : ∀ (fuel : Nat) (L : Array Bool) (a : Act) (w : World), L.toList.count false ≤ fuel → Inv rf C R l.toArray a0 l.length L a w →
    wpAny P .any l.toArray Q fuel L a w := by
  intro fuel
  have fin : ∀ (L : Array Bool) (a : Act) (w : World), Region.ready .any l.toArray L = [] → Inv rf C R l.toArray a0 l.length L a w → Q .normal a w := fun L a w h0 I => by
    have hall : ∀ i, i < l.toArray.size → L.getD i false = true := fun i hi => by
      cases hx : L.getD i false with
      | true => rfl
      | false => exact absurd h0 (some_ready H I.len (i + 1) i (by omega) hi (getD_in (by rw [I.len]; exact hi) hx))
    refine all_done H I (fun i _ hi => hall i hi) (hF w I.c) fun x hx hlk => ?_
    obtain ⟨h1, h2, _⟩ := H.refs x.1 x.2 hlk
    have := I.right x.1 (hall x.1 (by simpa using h2)) (by rw [h1]; simp only [slot, hlk]; rfl)
    rw [h1] at this
    simp only [slot, hlk] at this
    exact this
  induction fuel with
  | zero =>
    intro L a w hc I
    have h0 : Region.ready .any l.toArray L = [] := List.eq_nil_iff_forall_not_mem.2 fun i hi => by
      have := (mem_ready.1 hi).1
      rw [none_left (by omega) i] at this; cases this
    exact ⟨h0, fin L a w h0 I⟩
  | succ fuel ih =>
    intro L a w hc I
    refine ⟨fun h0 => fin L a w h0 I, fun i hi => step_op H hN hC hR hA I ?_ hi fun a' w' I' => ih _ _ _ (by have := count_set (mem_ready.1 hi).1; omega) I'⟩
    obtain ⟨_, o, ho, _⟩ := mem_ready.1 hi
    simpa using (Array.getElem?_eq_some_iff.1 ho).1
/-- Which are done when the end begins. -/
def upTo (n s : Nat) : Array Bool := ((List.range n).map fun i => decide (i < s)).toArray
theorem is_upTo {L : Array Bool} {n s : Nat} (hl : L.size = n) (h1 : ∀ i, i < s → L.getD i false = true) (h2 : ∀ t, s ≤ t → L.getD t false = false) : L = upTo n s := by
  refine Array.ext (by simp [upTo, hl]) fun i hi hi' => ?_
  have e : L[i] = L.getD i false := by simp [hi]
  rw [e]
  simp only [upTo, List.getElem_toArray, List.getElem_map, List.getElem_range]
  rcases Nat.lt_or_ge i s with h' | h'
  · rw [h1 i h', decide_eq_true h']
  · rw [h2 i h', decide_eq_false (by omega)]
theorem count_upTo (n s : Nat) (h : s ≤ n) : (upTo n s).toList.count false = n - s := by
  induction n with
  | zero => simp [upTo]
  | succ n ih =>
    have e : (upTo (n + 1) s).toList = (upTo n s).toList ++ [decide (n < s)] := by simp [upTo, List.range_succ]
    rw [e, List.count_append]
    rcases Nat.lt_or_ge n s with h' | h'
    · have hs : s = n + 1 := by omega
      have h0 : (upTo n s).toList.count false = 0 := List.count_eq_zero.2 fun hm => by
        simp only [upTo, List.mem_map, List.mem_range] at hm
        obtain ⟨i, hi, hh⟩ := hm
        rw [decide_eq_true (by omega)] at hh; cases hh
      rw [h0, decide_eq_true h']; simp; omega
    · rw [ih h', decide_eq_false (by omega)]; simp; omega
/-- A region that a chain of operations from number s on ends, from any state. -/
theorem any_tail {l : List Oper} {s N : Nat} {nd : List (Option (List (Nat × Tmp)))} (hs : s < l.length) (H : Ok l.toArray s N rf nd) (hT : Region.seqB .any l.toArray (l.length - s) s (upTo l.length s) = true) (hN : a0.tmps.size = N) (hC : ∀ i w w', C w → E i w w' → C w')
    (hR : ∀ i j v w w', i ≠ j → R j v w → E i w w' → R j v w') (hA : All E rf P l.toArray R C a0 0 l nd) (hF : ∀ w, C w → Obs l.toArray R w (fun c => wpList P l.toArray Q (l.drop s) c w) (heads l.toArray s) a0) :
    ∀ (fuel : Nat) (L : Array Bool) (a : Act) (w : World), L.toList.count false = fuel → Inv rf C R l.toArray a0 s L a w → wpAny P .any l.toArray Q fuel L a w := by
  have hsl : s < l.toArray.size := by simpa using hs
  intro fuel
  induction fuel with
  | zero =>
    intro L a w hc I
    have h1 := none_left (L := L) (by omega) s
    have h2 := getD_in (by rw [I.len]; exact hsl) (I.tail s (Nat.le_refl _))
    rw [h1] at h2; cases h2
  | succ fuel ih =>
    intro L a w hc I
    by_cases hall : ∀ i, i < s → L.getD i false = true
    · have hu : L = upTo l.length s := is_upTo (by rw [I.len]; simp) hall I.tail
      have hcc := count_upTo l.length s (by omega)
      rw [← hu, hc] at hcc
      have h1 := all_done H I (fun i h _ => hall i h) (hF w I.c)
      have := wpAny_of_seq (md := .any) (Q' := Q) (l.drop s) s L a w (fun j => by simp [List.getElem?_drop]) (by rw [hu, List.length_drop]; exact hT) h1
      rwa [List.length_drop, ← hcc] at this
    · refine ⟨fun h0 => absurd h0 (some_ready H I.len (s + 1) s (by omega) hsl (getD_in (by rw [I.len]; exact hsl) (I.tail s (Nat.le_refl _)))), fun i hi => ?_⟩
      have his : i < s := by
        rcases Nat.lt_trichotomy i s with h | h | h
        · exact h
        · subst h; exact absurd (fun j hj => tail_last H I hi (i - j + 1) j (by omega) hj) hall
        · exact (no_tail H I h hi).elim
      exact step_op H hN hC hR hA I his hi fun a' w' I' => ih _ _ _ (by have := count_set (mem_ready.1 hi).1; omega) I'

theorem inv_start {s : Nat} {w : World} (hc : C w) : Inv rf C R ops a0 s (Array.replicate ops.size false) a0 w :=
  have h0 : ∀ j, (Array.replicate ops.size false).getD j false = false := fun j => by
    rcases Nat.lt_or_ge j ops.size with h | h
    · simp [h]
    · simp [h]
  ⟨hc, by simp, fun j oj _ h1 => (by rw [h0] at h1; cases h1), fun t _ => h0 t, rfl, rfl, fun _ _ => rfl, fun j h1 => (by rw [h0] at h1; cases h1)⟩

/-- **A region that draws its order and that a chain of operations (from number s on) ends.** -/
theorem region_tail {id : Nat} {l : List Oper} {w : World} (E : World → World → Prop) (s N : Nat) (nd : List (Option (List (Nat × Tmp)))) (hd : List (Nat × Tmp)) (C : World → Prop) (R : Nat → Value → World → Prop) (hm : P.follows .mixedOrders = true) (hs : decide (s < l.length) = true) (hB : okB l.toArray s N [] nd = true)
    (hT : Region.seqB .any l.toArray (l.length - s) s (upTo l.length s) = true) (hN : a0.tmps.size = N) (hC : ∀ w w', C w → E w w' → C w') (hR : ∀ j v w w', R j v w → E w w' → R j v w') (h0 : C w.drew) (hH : heads l.toArray s = hd) (hA : All (fun _ => E) [] P l.toArray R C a0 0 l nd)
    (hF : ∀ w, C w → Obs l.toArray R w (fun c => wpList P l.toArray Q (l.drop s) c w) hd a0) : (Code.region id l.toArray true).wp P Q a0 w :=
  wp_region_any hm (by
    subst hH
    exact any_tail (Q := Q) (E := fun _ => E) (rf := []) (of_decide_eq_true hs) (ok_of hB) hT hN (fun _ => hC) (fun _ j v w w' _ => hR j v w w') hA hF _ _ a0 w.drew (by simp) (inv_start h0))
/-- **A region that draws its order and whose operations only make memory.** -/
theorem region_plain {id : Nat} {l : List Oper} {w : World} (E : World → World → Prop) (N : Nat) (nd : List (Option (List (Nat × Tmp)))) (hd : List (Nat × Tmp)) (C : World → Prop) (R : Nat → Value → World → Prop) (hm : P.follows .mixedOrders = true) (hB : okB l.toArray l.length N [] nd = true) (hN : a0.tmps.size = N)
    (hC : ∀ w w', C w → E w w' → C w') (hR : ∀ j v w w', R j v w → E w w' → R j v w') (h0 : C w.drew) (hH : heads l.toArray l.length = hd) (hA : All (fun _ => E) [] P l.toArray R C a0 0 l nd)
    (hF : ∀ w, C w → Obs l.toArray R w (fun c => Q .normal c w) hd a0) : (Code.region id l.toArray true).wp P Q a0 w :=
  wp_region_any hm (by
    subst hH
    exact any_plain (Q := Q) (E := fun _ => E) (rf := []) (ok_of hB) hN (fun _ => hC) (fun _ j v w w' _ => hR j v w w') hA (fun w h => obs_mono (f := fun c => Q .normal c w) (g := fun c => (∀ x ∈ ([] : List (Nat × Tmp)), ([] : List (Nat × Tmp)).lookup x.1 = some x.2 → R x.1 (look c (some x.2)) w) → Q .normal c w) (fun _ q _ => q) _ _ (hF w h)) _ _ a0 w.drew (by simp) (inv_start h0))
/-- **A region that draws its order, each operation with a relation of its own; rf: of which slot's value it is said what an operation without a slot leaves.** In the end what it says of them holds too. -/
theorem region_free {id : Nat} {l : List Oper} {w : World} (E : Nat → World → World → Prop) (N : Nat) (rf : List (Nat × Tmp)) (nd : List (Option (List (Nat × Tmp)))) (hd : List (Nat × Tmp)) (C : World → Prop) (R : Nat → Value → World → Prop) (hm : P.follows .mixedOrders = true) (hB : okB l.toArray l.length N rf nd = true) (hN : a0.tmps.size = N)
    (hC : ∀ i w w', C w → E i w w' → C w') (hR : ∀ i j v w w', i ≠ j → R j v w → E i w w' → R j v w') (h0 : C w.drew) (hH : heads l.toArray l.length = hd) (hA : All E rf P l.toArray R C a0 0 l nd)
    (hF : ∀ w, C w → Obs l.toArray R w (fun c => (∀ x ∈ rf, rf.lookup x.1 = some x.2 → R x.1 (look c (some x.2)) w) → Q .normal c w) hd a0) : (Code.region id l.toArray true).wp P Q a0 w :=
  wp_region_any hm (by
    subst hH
    exact any_plain (Q := Q) (ok_of hB) hN hC hR hA hF _ _ a0 w.drew (by simp) (inv_start h0))
end
end Go.Proofs.Ytmmhleobgpgliaa.reg
end
