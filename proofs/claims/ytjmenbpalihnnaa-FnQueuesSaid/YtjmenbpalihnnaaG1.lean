/- Merged texts of this seat. Kit: What a walk is told of a slice of integers that came in, and small closings. Condition: none. | Sl: Slices of integers in memory: what a slice that is read holds (Rd), what a slice of the call's own holds (Ow), and how both are kept from world to world. Condition: none. | Harn: The harness functions of the exact laws over slices of numbers: the copy, the comparison, the marks. Condition: lengths up to 2^26. | Atv: A byte of the input, as laws read it, told by the input alone. Condition: the slice of bytes reads as listed. | Draw: The cursor of a draw: what its functions return lies in the stated ranges, and of what was there only the cursor's own block is written. Condition: the cursor reads a slice of bytes that lies outside its own block. | Draw2: What the draws of numbers and strings return, in ranges. Condition: the bytes that are drawn from are a slice that came in. | App: An append onto a slice of numbers of the call's own, whatever slice of numbers is appended (nil and empty ones too). Condition: together at most 2^30 elements of at most 8 bytes. | DrawB: Drawn slices of bytes, and an append between two draws. Condition: the bytes that are drawn from are a slice that came in. | Own: Small laws on rows of the call's own and on worlds that only drew. Condition: none. | Rng: Ranges, least and greatest: the program's and the specification's functions. Condition: none. | Box: A block that holds an array of cells, whatever the struct; results that are one bool or one integer; ranges. Condition: none. -/
import Derived.Test.YtjmenbpalihnnaaRows
import Derived.WalkKit
import Derived.Below
import Derived.OwnWalk
import Derived.Laws.OwnMore
import Derived.Maps.AppendAt
import Derived.Deep.AppendLies
import Derived.Deep.Draws
import Derived.RegionTactic
import Derived.Laws.MakeOwn
import Derived.Laws.Entries
import Derived.OpenShut
import Derived.ProofKit
import Derived.LoopTactic
import Derived.Deep.QuietTactic
import Derived.BigQuiet
import Derived.Outline
import Derived.Lib.Hide
import Derived.OneCell
import Derived.BigFrame
section
namespace Go.Proofs.Ytjmenbpalihnnaa.kit

/-- A slice of integers: nil, or a row of 'cap' cells that hold the numbers 'zs', each fitting its kind. -/
def IsRow (k : IntKind) (w : World) (a : Option Addr) (len cap : Nat) (zs : List Int) : Prop :=
  (a = none ∧ len = 0 ∧ cap = 0 ∧ zs = []) ∨
  ∃ x, a = some x ∧ len ≤ cap ∧ cap ≤ maxLen ∧ zs.length = cap ∧ (∀ i, i < zs.length → w.cell? (x.add i) = some (.int k (zs.getD i 0))) ∧ ∀ n ∈ zs, (Lit.int k n).wf = true
end Go.Proofs.Ytjmenbpalihnnaa.kit
end

section
namespace Go.Proofs.Ytjmenbpalihnnaa.sl
open Go.RowKit

def Wf (k : IntKind) (zs : List Int) : Prop := ∀ z ∈ zs, (Lit.int k z).wf = true
theorem Wf.nil (k : IntKind) : Wf k [] := fun _ h => by cases h
theorem Wf.append {k : IntKind} {a b : List Int} (h : Wf k a) (g : Wf k b) : Wf k (a ++ b) := fun z hz => by
  rcases List.mem_append.1 hz with hz | hz
  · exact h z hz
  · exact g z hz
theorem Wf.one {k : IntKind} {x : Int} (h : (Lit.int k x).wf = true) : Wf k [x] := fun z hz => by
  have : z = x := by simpa using hz
  subst this; exact h
theorem Wf.left {k : IntKind} {a b : List Int} (h : Wf k (a ++ b)) : Wf k a := fun z hz => h z (List.mem_append_left _ hz)
theorem Wf.right {k : IntKind} {a b : List Int} (h : Wf k (a ++ b)) : Wf k b := fun z hz => h z (List.mem_append_right _ hz)
theorem Wf.drop {k : IntKind} {a : List Int} (h : Wf k a) (i : Nat) : Wf k (a.drop i) := fun z hz => h z (List.mem_of_mem_drop hz)
theorem Wf.take {k : IntKind} {a : List Int} (h : Wf k a) (i : Nat) : Wf k (a.take i) := fun z hz => h z (List.mem_of_mem_take hz)
theorem Wf.getD {k : IntKind} {a : List Int} (h : Wf k a) {i : Nat} (hi : i < a.length) : (Lit.int k (a.getD i 0)).wf = true := by
  rw [List.getD_eq_getElem?_getD, List.getElem?_eq_getElem hi]; exact h _ (List.getElem_mem hi)
theorem Wf.u8 {a : List Int} (h : Wf .u8 a) : ∀ z ∈ a, 0 ≤ z ∧ z ≤ 255 := fun z hz => by
  have := bounds_u8 (h z hz); omega
theorem Wf.of_u8 {a : List Int} (h : ∀ z ∈ a, 0 ≤ z ∧ z ≤ 255) : Wf .u8 a := fun z hz => WalkArith.wf_u8 (by have := h z hz; omega)
theorem Wf.i64 {a : List Int} (h : Wf .i64 a) : ∀ z ∈ a, -9223372036854775808 ≤ z ∧ z ≤ 9223372036854775807 := fun z hz => by
  have := bounds_i64 (h z hz); omega
theorem Wf.of_i64 {a : List Int} (h : ∀ z ∈ a, -9223372036854775808 ≤ z ∧ z ≤ 9223372036854775807) : Wf .i64 a := fun z hz => WalkArith.wf_i64 (by have := h z hz; omega)

/-- Only blocks from lo to below hi of what was there may have been written. -/
structure Tch (lo hi : Nat) (w w' : World) : Prop where
  os : w'.os = w.os
  tape : w'.tape = w.tape
  output : w'.output = w.output
  size : w.heap.size ≤ w'.heap.size
  block : ∀ k, k < w.heap.size → (k < lo ∨ hi ≤ k) → w'.heap[k]? = w.heap[k]?
theorem Tch.refl (lo hi : Nat) (w : World) : Tch lo hi w w := ⟨rfl, rfl, rfl, Nat.le_refl _, fun _ _ _ => rfl⟩
theorem Tch.below {lo hi B : Nat} {w w' : World} (h : Tch lo hi w w') (hB : B ≤ lo) (hs : B ≤ w.heap.size) : Below B w w' :=
  ⟨h.os, h.tape, h.output, h.size, fun k hk => h.block k (by omega) (Or.inl (by omega))⟩

/-- A slice of numbers that is read: its address is looked at only where there is an element. -/
def Rd (k : IntKind) (w : World) (lo hi : Nat) (A : Option Addr) (n cap : Nat) (zs : List Int) : Prop :=
  zs.length = n ∧ n ≤ cap ∧ cap ≤ maxLen ∧ hi ≤ w.heap.size ∧ Wf k zs ∧ (0 < n → ∃ b off, A = some ⟨b, off, none⟩ ∧ lo ≤ b ∧ b < hi ∧ ∀ i, i < n → w.cell? ⟨b, off + i, none⟩ = some (.int k (zs.getD i 0)))
/-- A slice of numbers that the call itself has made. -/
def Ow (E : TypeId) (k : IntKind) (w : World) (lo hi : Nat) (A : Option Addr) (n cap : Nat) (zs : List Int) : Prop :=
  w.ownsRow lo E 1 (.slice A n cap) n (zs.map (Value.int k)) ∧ Wf k zs ∧ hi ≤ w.heap.size ∧ ∀ g o, A = some ⟨g, o, none⟩ → g < hi

section
variable {k : IntKind} {w w' : World} {lo hi n cap : Nat} {A : Option Addr} {zs : List Int} {E : TypeId}

theorem Rd.len (h : Rd k w lo hi A n cap zs) : zs.length = n := h.1
theorem Rd.cap_ (h : Rd k w lo hi A n cap zs) : n ≤ cap ∧ cap ≤ 9223372036854775807 := ⟨h.2.1, by have := h.2.2.1; unfold maxLen at this; omega⟩
theorem Rd.hi_ (h : Rd k w lo hi A n cap zs) : hi ≤ w.heap.size := h.2.2.2.1
theorem Rd.wf (h : Rd k w lo hi A n cap zs) : Wf k zs := h.2.2.2.2.1
theorem Rd.at_ (h : Rd k w lo hi A n cap zs) {i : Nat} (hi' : i < n) : ∃ b off, A = some ⟨b, off, none⟩ ∧ lo ≤ b ∧ b < hi ∧ w.cell? ⟨b, off + i, none⟩ = some (.int k (zs.getD i 0)) := by
  obtain ⟨b, off, e, h1, h2, h3⟩ := h.2.2.2.2.2 (by omega)
  exact ⟨b, off, e, h1, h2, h3 i hi'⟩
theorem Rd.same (h : Rd k w lo hi A n cap zs) (hs : w.heap.size ≤ w'.heap.size) (hb : ∀ b, lo ≤ b → b < hi → w'.heap[b]? = w.heap[b]?) : Rd k w' lo hi A n cap zs := by
  obtain ⟨h1, h2, h3, h4, h5, h6⟩ := h
  refine ⟨h1, h2, h3, by omega, h5, fun hn => ?_⟩
  obtain ⟨b, off, e, g1, g2, g3⟩ := h6 hn
  exact ⟨b, off, e, g1, g2, fun i hi => (World.cell?_of_block (w := w) (hb b g1 g2)).trans (g3 i hi)⟩
theorem Rd.below (h : Rd k w lo hi A n cap zs) (hb : Below w.heap.size w w') : Rd k w' lo hi A n cap zs :=
  h.same hb.size fun b _ hlt => hb.block b (by have := h.hi_; omega)
theorem Rd.tch (h : Rd k w lo hi A n cap zs) {l r : Nat} (hb : Tch l r w w') (hd : hi ≤ l ∨ r ≤ lo) : Rd k w' lo hi A n cap zs :=
  h.same hb.size fun b h1 h2 => hb.block b (by have := h.hi_; omega) (by omega)
theorem Rd.wide (h : Rd k w lo hi A n cap zs) : Rd k w 0 w.heap.size A n cap zs := by
  obtain ⟨h1, h2, h3, h4, h5, h6⟩ := h
  refine ⟨h1, h2, h3, Nat.le_refl _, h5, fun hn => ?_⟩
  obtain ⟨b, off, e, g1, g2, g3⟩ := h6 hn
  exact ⟨b, off, e, by omega, by omega, g3⟩
theorem Rd.nil (k : IntKind) (w : World) (A : Option Addr) (cap lo hi : Nat) (hc : cap ≤ maxLen) (hh : hi ≤ w.heap.size) : Rd k w lo hi A 0 cap [] :=
  ⟨rfl, by omega, hc, hh, Wf.nil k, fun h => absurd h (by omega)⟩
/-- A cut of a slice that is read. -/
theorem Rd.cut (h : Rd k w lo hi A n cap zs) (i j c : Nat) (A' : Option Addr) (hA : i < j → A' = A.map (·.add i)) (hij : i ≤ j) (hj : j ≤ n) (hc : j - i ≤ c) (hcm : c ≤ maxLen) :
    Rd k w lo hi A' (j - i) c ((zs.drop i).take (j - i)) := by
  obtain ⟨h1, h2, h3, h4, h5, h6⟩ := h
  refine ⟨by simp; omega, hc, hcm, h4, (h5.drop i).take _, fun hn => ?_⟩
  obtain ⟨b, off, rfl, g1, g2, g3⟩ := h6 (by omega)
  refine ⟨b, off + i, ?_, g1, g2, fun m hm => ?_⟩
  · rw [hA (by omega)]; simp [Addr.add]
  · rw [Nat.add_assoc, g3 (i + m) (by omega)]
    congr 2
    rw [List.getD_eq_getElem?_getD, List.getD_eq_getElem?_getD, List.getElem?_take, if_pos hm, List.getElem?_drop]

theorem Ow.len (h : Ow E k w lo hi A n cap zs) : zs.length = n := by have := h.1.1; simpa using this
theorem Ow.wf (h : Ow E k w lo hi A n cap zs) : Wf k zs := h.2.1
theorem Ow.hi_ (h : Ow E k w lo hi A n cap zs) : hi ≤ w.heap.size := h.2.2.1
theorem Ow.form (h : Ow E k w lo hi A n cap zs) : (A = none ∧ n = 0 ∧ cap = 0) ∨ ∃ g cur, A = some ⟨g, 0, none⟩ ∧ lo ≤ g ∧ g < hi ∧ w.heap[g]? = some (.cells cur E (0, 0)) ∧ n ≤ cap ∧ cap ≤ maxLen ∧ cur.size = cap ∧ cur.toList.take n = zs.map (Value.int k) := by
  rcases h.1.2 with ⟨e, h0⟩ | ⟨g, c, cur, e, h1, h2, h3, h4, h5, h6⟩
  · injection e with e1 e2 e3
    exact Or.inl ⟨e1, e2, e3⟩
  · injection e with e1 e2 e3
    subst e3
    exact Or.inr ⟨g, cur, e1, h1, h.2.2.2 g 0 e1, h2, h3, h4, by simpa using h5, by simpa using h6⟩
theorem Ow.rd (h : Ow E k w lo hi A n cap zs) : Rd k w lo hi A n cap zs := by
  have hl := h.len
  rcases h.form with ⟨rfl, rfl, rfl⟩ | ⟨g, cur, rfl, h1, h2, h3, h4, h5, h6, h7⟩
  · exact ⟨hl, Nat.le_refl _, by unfold maxLen; omega, h.hi_, h.wf, fun h => absurd h (by omega)⟩
  · refine ⟨hl, h4, h5, h.hi_, h.wf, fun _ => ⟨g, 0, rfl, h1, h2, fun i hi' => ?_⟩⟩
    have hc := h.1.cellAt i (by simpa using hi')
    rw [Nat.zero_add, hc]
    rw [List.getElem?_map, List.getD_eq_getElem?_getD, List.getElem?_eq_getElem (show i < zs.length by omega)]
    rfl
theorem Ow.free (h : Ow E k w lo hi A n cap zs) {b off : Nat} (e : A = some ⟨b, off, none⟩) (i : Nat) : w.frozen? ⟨b, i, none⟩ = false := by
  rcases h.form with ⟨rfl, _, _⟩ | ⟨g, cur, rfl, h1, h2, h3, h4⟩
  · cases e
  · injection e with e; injection e with e _; subst e
    simp [World.frozen?, h3]
theorem Ow.same (h : Ow E k w lo hi A n cap zs) (hs : w.heap.size ≤ w'.heap.size) (hb : ∀ b, lo ≤ b → b < hi → w'.heap[b]? = w.heap[b]?) : Ow E k w' lo hi A n cap zs := by
  obtain ⟨⟨h1, h2⟩, h3, h4, h5⟩ := h
  refine ⟨⟨h1, ?_⟩, h3, by omega, h5⟩
  rcases h2 with h2 | ⟨g, c, cur, e, g1, g2, g3⟩
  · exact Or.inl h2
  · injection e with e1 e2 e3
    refine Or.inr ⟨g, c, cur, by rw [e1, e3], g1, ?_, g3⟩
    rw [hb g g1 (h5 g 0 e1)]; exact g2
theorem Ow.below (h : Ow E k w lo hi A n cap zs) (hb : Below w.heap.size w w') : Ow E k w' lo hi A n cap zs :=
  h.same hb.size fun b _ hlt => hb.block b (by have := h.hi_; omega)
theorem Ow.tch (h : Ow E k w lo hi A n cap zs) {l r : Nat} (hb : Tch l r w w') (hd : hi ≤ l ∨ r ≤ lo) : Ow E k w' lo hi A n cap zs :=
  h.same hb.size fun b h1 h2 => hb.block b (by have := h.hi_; omega) (by omega)
theorem Ow.of_own {v : Value} (h : w.ownsRow lo E 1 v n (zs.map (Value.int k))) (hw : Wf k zs) : ∃ A cap, v = .slice A n cap ∧ Ow E k w lo w.heap.size A n cap zs := by
  rcases h.2 with ⟨rfl, rfl⟩ | ⟨g, c, cur, rfl, h1, h2, h3⟩
  · exact ⟨none, 0, rfl, h, hw, Nat.le_refl _, fun _ _ e => by cases e⟩
  · exact ⟨_, c, rfl, h, hw, Nat.le_refl _, fun b o e => by injection e with e; injection e with e _; subst e; exact lt_of_block h2⟩
/-- A new row that is written out. -/
theorem Ow.lit (w : World) (cs : Array Value) (zs : List Int) (hcs : cs.toList = zs.map (Value.int k)) (hw : Wf k zs) (hl : zs.length ≤ maxLen) (hn : cs.size = n) :
    Ow E k (w.alloc (.cells cs E)) w.heap.size (w.alloc (.cells cs E)).heap.size (some ⟨w.heap.size, 0, none⟩) n n zs := by
  have hz : cs.size = zs.length := by have := congrArg List.length hcs; simpa using this
  have := World.ownsRow_lit (e := E) (size := 1) (base := w.heap.size) w cs n (Nat.le_refl _) (by omega) (by omega)
  rw [hcs] at this
  exact ⟨this, hw, Nat.le_refl _, fun g o e => by injection e with e; injection e with e _; subst e; simp⟩
end

/-- A slice that came in. -/
theorem Rd.of_row {k : IntKind} {w : World} {A : Option Addr} {len cap : Nat} {zs : List Int} (h : kit.IsRow k w A len cap zs) : ∃ ys, Rd k w 0 w.heap.size A len cap ys := by
  rcases h with ⟨rfl, rfl, rfl, rfl⟩ | ⟨x, rfl, hl, hm, hz, hc, hw⟩
  · exact ⟨[], Rd.nil k w none 0 0 w.heap.size (by unfold maxLen; omega) (Nat.le_refl _)⟩
  · refine ⟨zs.take len, by simp; omega, hl, hm, Nat.le_refl _, Wf.take hw len, fun hn => ?_⟩
    obtain ⟨b, off, rfl, hcell⟩ := ints_at hc (by omega)
    have e0 := hcell 0 (by omega)
    have hb : b < w.heap.size := by
      rcases Nat.lt_or_ge b w.heap.size with h1 | h1
      · exact h1
      · exfalso
        have : w.heap[b]? = none := Array.getElem?_eq_none h1
        simp [World.cell?, this] at e0
    refine ⟨b, off, rfl, by omega, hb, fun i hi => ?_⟩
    rw [hcell i (by omega), List.getD_eq_getElem?_getD, List.getD_eq_getElem?_getD, List.getElem?_take, if_pos hi]

/-- What a function hands back that makes a slice of numbers. -/
def SlPost (E : TypeId) (k : IntKind) (w : World) (zs : List Int) (e : Ending) (w' : World) : Prop :=
  ∃ A n cap, e = .returned (.slice A n cap) ∧ Ow E k w' w.heap.size w'.heap.size A n cap zs ∧ Below w.heap.size w w'

/-- The words of the guide for a source of an append. -/
def Reads (w : World) (B size : Nat) (A : Option Addr) (n : Nat) (xs : List Value) : Prop :=
  xs.length = n * size ∧ (0 < n → ∃ ad, A = some ad ∧ ad.block < B ∧ ∀ j u, xs[j]? = some u → w.cell? (ad.add j) = some u)
theorem Rd.reads {k : IntKind} {w : World} {lo hi n cap : Nat} {A : Option Addr} {zs : List Int} (h : Rd k w lo hi A n cap zs) : Reads w hi 1 A n (zs.map (Value.int k)) := by
  refine ⟨by simpa using h.len, fun hn => ?_⟩
  obtain ⟨b, off, e, h1, h2, h3⟩ := h.2.2.2.2.2 hn
  refine ⟨_, e, h2, fun j u hu => ?_⟩
  have hj : j < n := by
    have := (List.getElem?_eq_some_iff.1 hu).1
    simp at this; have := h.len; omega
  have e2 : (⟨b, off, none⟩ : Addr).add j = ⟨b, off + j, none⟩ := by
    unfold Addr.add; split <;> simp_all
  rw [e2, h3 j hj]
  rw [List.getElem?_map, List.getElem?_eq_getElem (show j < zs.length by rw [h.len]; exact hj)] at hu
  rw [List.getD_eq_getElem?_getD, List.getElem?_eq_getElem (show j < zs.length by rw [h.len]; exact hj)]
  simpa using hu
theorem one_cells (k : IntKind) (zs : List Int) : ∀ u ∈ zs.map (Value.int k), u.oneCell' = true := by
  intro u hu
  obtain ⟨z, _, rfl⟩ := List.mem_map.1 hu
  rfl
end Go.Proofs.Ytjmenbpalihnnaa.sl
end

section
namespace Go.Proofs.Ytjmenbpalihnnaa.harn
open Go.RowKit sl

theorem run_make1 {P : Program} (t e : TypeId) (i : TypeInfo) (z : Value) (ht : P.underlying t = some (.slice e)) (hi : P.info? e = some i) (hz : i.zero = some z) (hs : i.size = 1)
    (n : Nat) (hb8 : i.bytes ≤ 8) (hn : n ≤ 67108864) (w : World) :
    (Instr.makeSlice t (.int .i64 (n : Int)) (.int .i64 (n : Int))).run P w = .ok (.slice (some ⟨w.heap.size, 0, none⟩) n n) (w.alloc (.cells (madeCells z.cells n) e)) := by
  have hb : (i.bytes : Int) * (n : Int) ≤ 281474976710656 := by
    have h : ((i.bytes * n : Nat) : Int) ≤ 281474976710656 := by
      have h1 := Nat.mul_le_mul hb8 hn
      omega
    rwa [Int.natCast_mul] at h
  have hr := run_make (P := P) w t e i z ht hi hz .i64 .i64 n n (by omega) (by omega) hb (by omega)
  simp only [Int.toNat_natCast] at hr
  rw [hs, Nat.mul_one] at hr
  exact hr

theorem u8Info : (Try.prog.info? 5).map (fun i => (i.zero, i.size, i.bytes)) = some (some (.int .u8 0), 1, 1) := by kernel_rfl
theorem intInfo : (Try.prog.info? 3).map (fun i => (i.zero, i.size, i.bytes)) = some (some (.int .i64 0), 1, 8) := by kernel_rfl

theorem madeLt (z : Array Value) (n k : Nat) (h : k < n) : ∃ v, (madeCells z n)[k]? = some v := ⟨_, Array.getElem?_eq_getElem (by rw [size_madeCells]; exact h)⟩
/-- A copy that has come to k. -/
def Part (kd : IntKind) (E : TypeId) (w wr : World) (n k : Nat) (zs : List Int) : Prop :=
  ∃ cs, wr.heap[w.heap.size]? = some (.cells cs E (0, 0)) ∧ cs.size = n ∧ (∀ j, j < k → cs[j]? = some (.int kd (zs.getD j 0))) ∧ Below w.heap.size w wr
theorem Part.start (kd : IntKind) (E : TypeId) (w : World) (n : Nat) (zs : List Int) (z : Array Value) : Part kd E w (w.alloc (.cells (madeCells z n) E)) n 0 zs :=
  ⟨_, heap_alloc_new w _, size_madeCells z n, fun j h => absurd h (by omega), (Below.refl _ _).alloc (Nat.le_refl _) _⟩
theorem Part.cell {kd : IntKind} {E : TypeId} {w wr : World} {n k : Nat} {zs : List Int} (h : Part kd E w wr n k zs) (hk : k < n) : ∃ v, wr.cell? ⟨w.heap.size, k, none⟩ = some v := by
  obtain ⟨cs, h1, h2, _⟩ := h
  exact ⟨cs[k]'(by omega), by simp [World.cell?, h1]⟩
theorem Part.free {kd : IntKind} {E : TypeId} {w wr : World} {n k : Nat} {zs : List Int} (h : Part kd E w wr n k zs) (i : Nat) : wr.frozen? ⟨w.heap.size, i, none⟩ = false := by
  obtain ⟨cs, h1, _⟩ := h
  simp [World.frozen?, h1]
theorem Part.step {kd : IntKind} {E : TypeId} {w wr : World} {n k : Nat} {zs : List Int} (h : Part kd E w wr n k zs) (hk : k < n) : Part kd E w (wr.setCell ⟨w.heap.size, k, none⟩ (.int kd (zs.getD k 0))) n (k + 1) zs := by
  obtain ⟨cs, h1, h2, h3, h4⟩ := h
  refine ⟨cs.setIfInBounds k (.int kd (zs.getD k 0)), ?_, by simpa using h2, fun j hj => ?_, h4.setCell (Nat.le_refl _) _⟩
  · exact heap_setCell_same wr w.heap.size k cs E _ h1
  · rcases Nat.lt_or_ge j k with hlt | hge
    · rw [Array.getElem?_setIfInBounds_ne (by omega)]; exact h3 j hlt
    · have : j = k := by omega
      subst this
      rw [Array.getElem?_setIfInBounds_self_of_lt (by omega)]
theorem Part.done {kd : IntKind} {E : TypeId} {w wr : World} {n : Nat} {zs : List Int} (h : Part kd E w wr n n zs) (hl : zs.length = n) (hw : Wf kd zs) (hm : n ≤ maxLen) :
    SlPost E kd w zs (.returned (.slice (some ⟨w.heap.size, 0, none⟩) n n)) wr := by
  obtain ⟨cs, h1, h2, h3, h4⟩ := h
  have e : cs.toList = zs.map (Value.int kd) := by
    apply List.ext_getElem?
    intro i
    rw [Array.getElem?_toList, List.getElem?_map]
    rcases Nat.lt_or_ge i n with hi | hi
    · rw [h3 i hi, List.getElem?_eq_getElem (show i < zs.length by omega), List.getD_eq_getElem?_getD, List.getElem?_eq_getElem (show i < zs.length by omega)]
      rfl
    · rw [Array.getElem?_eq_none (by omega), List.getElem?_eq_none (by omega)]; rfl
  refine ⟨_, _, _, rfl, ⟨⟨by simpa using hl, Or.inr ⟨_, n, cs, rfl, Nat.le_refl _, h1, Nat.le_refl _, hm, by simpa using h2, ?_⟩⟩, hw, Nat.le_refl _, ?_⟩, h4⟩
  · rw [Nat.mul_one, ← e, List.take_of_length_le (by simp; omega)]
  · intro g o e; injection e with e; injection e with e _; subst e; exact lt_of_block h1
theorem rd_part {kd : IntKind} {E : TypeId} {w wr : World} {n k : Nat} {zs : List Int} {lo hi cap : Nat} {A : Option Addr} (r : Rd kd w lo hi A n cap zs) (h : Part kd E w wr n k zs) : Rd kd wr lo hi A n cap zs := by
  obtain ⟨cs, _, _, _, h4⟩ := h
  exact r.below h4

theorem toByteS (zs : List Int) (lo hi : Nat) (A : Option Addr) (n cap : Nat) (w : World) (h : Rd .u8 w lo hi A n cap zs) (hn : n ≤ 67108864) :
    Calls Try.prog 92 #[.slice A n cap] w (SlPost 5 .u8 w zs) := by
  obtain ⟨i0, hi0, hz0, hz1, hz2⟩ := info_parts u8Info
  have hmk := fun W => run_make1 (P := Try.prog) 22 5 i0 _ Try.underlying22 hi0 hz0 hz1 n (by omega) hn W
  have HR := Lib.hid h
  clear h hz2 hz1 hz0 hi0
  go_enter Try.func92, Try.ntmps92
  go_wp2
  go_loopw [4] (fun i wr => ∃ k : Nat, i = .int .i64 k ∧ k ≤ n ∧ Part .u8 5 w wr n k zs) (fun i _ => n - (intOf i).toNat)
  case atStart => exact ⟨0, rfl, by omega, Part.start _ _ _ _ _ _⟩
  case round =>
    obtain ⟨k, rfl, hk, hp⟩ := hrel
    have HP := Lib.hid hp
    clear hp
    by_cases hlt : k < n
    · obtain ⟨b, off, rfl, h1, h2, hc⟩ := (rd_part HR.out HP.out).at_ hlt
      obtain ⟨v, hv⟩ := HP.out.cell hlt
      have hf := HP.out.free k
      have hlt2 : (k : Int) < n := by omega
      go_wp2
      go_roundw
      case rel => exact ⟨k + 1, by go_num, by omega, HP.out.step hlt⟩
      case measure => simp [intOf]; omega
    · have hlt2 : ¬ (k : Int) < n := by omega
      go_wp2
      go_ret
      obtain rfl : k = n := by omega
      exact HP.out.done HR.out.len HR.out.wf (by unfold maxLen; omega)

/-- The comparison says whether the two read alike. -/
def EqPost (zs ys : List Int) (w : World) (e : Ending) (w' : World) : Prop := e = .returned (.bool (decide (zs = ys))) ∧ Below w.heap.size w w'
theorem below_drews (w : World) (m : Nat) : Below w.heap.size w (w.drewN m) := ⟨rfl, rfl, rfl, Nat.le_refl _, fun _ _ => rfl⟩

theorem ne_at {zs ys : List Int} {k : Nat} (h : ¬ zs.getD k 0 = ys.getD k 0) : ¬ zs = ys := fun e => h (by rw [e])
theorem eq_all {zs ys : List Int} {n : Nat} (h1 : zs.length = n) (h2 : ys.length = n) (h : ∀ j, j < n → zs.getD j 0 = ys.getD j 0) : zs = ys := by
  apply List.ext_getElem (by omega)
  intro i hi hi2
  have := h i (by omega)
  simpa [List.getD_eq_getElem?_getD, hi, hi2] using this
theorem eq_true {zs ys : List Int} (h : zs = ys) : decide (zs = ys) = true := decide_eq_true h
theorem eq_false {zs ys : List Int} (h : ¬ zs = ys) : decide (zs = ys) = false := decide_eq_false h

theorem eqByteS (zs ys : List Int) (lo hi lo2 hi2 : Nat) (A A2 : Option Addr) (n cap n2 cap2 : Nat) (w : World) (h : Rd .u8 w lo hi A n cap zs) (h2 : Rd .u8 w lo2 hi2 A2 n2 cap2 ys) :
    Calls Try.prog 52 #[.slice A n cap, .slice A2 n2 cap2] w (EqPost zs ys w) := by
  have hb := h.cap_
  have hb2 := h2.cap_
  have HR := Lib.hid h
  have HS := Lib.hid h2
  clear h h2
  by_cases hnn : n = n2
  · subst hnn
    go_enter Try.func52, Try.ntmps52
    go_wp2
    go_loopw [5] (fun i wr => ∃ k m : Nat, i = .int .i64 k ∧ k ≤ n ∧ wr = w.drewN m ∧ ∀ j, j < k → zs.getD j 0 = ys.getD j 0) (fun i _ => n - (intOf i).toNat)
    case atStart => exact ⟨0, 0, rfl, by omega, rfl, fun j h => absurd h (by omega)⟩
    case round =>
      obtain ⟨k, m, rfl, hk, rfl, hall⟩ := hrel
      have HA := Lib.hid hall
      clear hall
      by_cases hlt : k < n
      · obtain ⟨b, off, rfl, h1, h2, hc⟩ := HR.out.at_ hlt
        obtain ⟨b2, off2, rfl, h3, h4, hc2⟩ := HS.out.at_ hlt
        obtain ⟨x, hx⟩ : ∃ x, zs.getD k 0 = x := ⟨_, rfl⟩
        obtain ⟨y, hy⟩ : ∃ y, ys.getD k 0 = y := ⟨_, rfl⟩
        rw [hx] at hc
        rw [hy] at hc2
        have HX := Lib.hid (And.intro hx hy)
        clear hx hy
        have hlt2 : (k : Int) < n := by omega
        by_cases hxy : x = y
        · subst hxy
          go_wp2
          go_quiet (fail)
          go_wp2
          go_roundw
          case rel =>
            refine ⟨k + 1, _, by go_num, by omega, rfl, fun j hj => ?_⟩
            rcases Nat.lt_or_ge j k with hjk | hjk
            · exact HA.out j hjk
            · obtain rfl : j = k := by omega
              rw [HX.out.1, HX.out.2]
          case measure => simp [intOf]; omega
        · have hne : (x == y) = false := by simpa using hxy
          go_wp2
          go_quiet (fail)
          go_wp2
          go_ret
          refine ⟨?_, ⟨rfl, rfl, rfl, Nat.le_refl _, fun _ _ => rfl⟩⟩
          rw [eq_false (ne_at (k := k) (by rw [HX.out.1, HX.out.2]; exact hxy))]; rfl
      · have hlt2 : ¬ (k : Int) < n := by omega
        obtain rfl : k = n := by omega
        go_wp2
        go_ret
        refine ⟨?_, ⟨rfl, rfl, rfl, Nat.le_refl _, fun _ _ => rfl⟩⟩
        rw [eq_true (eq_all HR.out.len HS.out.len HA.out)]; rfl
  · have hne : ¬ (n : Int) = n2 := by omega
    have HN : Hid (¬ zs = ys) := by
      intro e
      have h1 := HR.out.len
      have h2 := HS.out.len
      rw [e] at h1
      omega
    go_enter Try.func52, Try.ntmps52
    go_wp2
    go_ret
    exact ⟨by rw [eq_false HN.out]; rfl, Below.refl _ _⟩

theorem eqByteS_yes (zs : List Int) (lo hi lo2 hi2 : Nat) (A A2 : Option Addr) (n cap n2 cap2 : Nat) (w : World) (h : Rd .u8 w lo hi A n cap zs) (h2 : Rd .u8 w lo2 hi2 A2 n2 cap2 zs) :
    Calls Try.prog 52 #[.slice A n cap, .slice A2 n2 cap2] w fun e w' => e = .returned (.bool true) ∧ Below w.heap.size w w' :=
  (eqByteS zs zs lo hi lo2 hi2 A A2 n cap n2 cap2 w h h2).mono fun e w' ⟨he, hb⟩ => ⟨by rw [he, eq_true rfl], hb⟩

/-- The marks: k, k + 1, .. as numbers of the kind. -/
def marks (kd : IntKind) (k : Int) (n : Nat) : List Int := (List.range n).map fun (j : Nat) => kd.wrap (k + j)
theorem marks_len (kd : IntKind) (k : Int) (n : Nat) : (marks kd k n).length = n := by simp [marks]
theorem marks_at (kd : IntKind) (k : Int) {n j : Nat} (h : j < n) : (marks kd k n).getD j 0 = kd.wrap (k + j) := by
  simp [marks, List.getD_eq_getElem?_getD, h]
/-- A marking that has come to i. -/
def Marked (kd : IntKind) (E : TypeId) (w wr : World) (lo hi : Nat) (A : Option Addr) (n cap : Nat) (k : Int) (i : Nat) : Prop :=
  ∃ ys, Ow E kd wr lo hi A n cap ys ∧ (∀ j, j < i → ys.getD j 0 = kd.wrap (k + j)) ∧ Tch lo hi w wr
theorem Marked.step {kd : IntKind} {E : TypeId} {w wr : World} {lo hi n cap : Nat} {k : Int} {i b : Nat} (h : Marked kd E w wr lo hi (some ⟨b, 0, none⟩) n cap k i) (hi' : i < n)
    (hw : (Lit.int kd (kd.wrap (k + i))).wf = true) : Marked kd E w (wr.setCell ⟨b, i, none⟩ (.int kd (kd.wrap (k + i)))) lo hi (some ⟨b, 0, none⟩) n cap k (i + 1) := by
  obtain ⟨ys, h1, h2, h3⟩ := h
  have hl := h1.len
  have hs := h1.1.stored i (.int kd (kd.wrap (k + i)))
  have e : (ys.map (Value.int kd)).set i (.int kd (kd.wrap (k + i))) = (ys.set i (kd.wrap (k + i))).map (Value.int kd) := by rw [List.map_set]
  have hb : lo ≤ b ∧ b < hi := by
    rcases h1.form with ⟨h, _⟩ | ⟨g, cur, h, g1, g2, _⟩
    · cases h
    · injection h with h; injection h with h _; omega
  refine ⟨ys.set i (kd.wrap (k + i)), ⟨?_, ?_, ?_, h1.2.2.2⟩, fun j hj => ?_, ?_⟩
  · rw [← e]; exact hs.1
  · intro z hz
    rcases List.mem_or_eq_of_mem_set hz with hz | hz
    · exact h1.wf z hz
    · rw [hz]; exact hw
  · have := h1.hi_; simpa [World.setCell] using this
  · rw [List.getD_eq_getElem?_getD]
    by_cases hij : j = i
    · subst hij
      rw [List.getElem?_set_self (by omega)]; rfl
    · rw [List.getElem?_set_ne (by omega), ← List.getD_eq_getElem?_getD]
      exact h2 j (by omega)
  · refine ⟨h3.os, h3.tape, h3.output, by simpa [World.setCell] using h3.size, fun q hq hd => ?_⟩
    rw [Below.heap_setCell _ _ _ _ (by show q ≠ b; omega)]
    exact h3.block q hq hd
theorem Marked.start {kd : IntKind} {E : TypeId} {w : World} {lo hi n cap : Nat} {A : Option Addr} {zs : List Int} (h : Ow E kd w lo hi A n cap zs) (k : Int) : Marked kd E w w lo hi A n cap k 0 :=
  ⟨zs, h, fun j hj => absurd hj (by omega), Tch.refl _ _ _⟩
theorem Marked.done {kd : IntKind} {E : TypeId} {w wr : World} {lo hi n cap : Nat} {A : Option Addr} {k : Int} (h : Marked kd E w wr lo hi A n cap k n) : Ow E kd wr lo hi A n cap (marks kd k n) ∧ Tch lo hi w wr := by
  obtain ⟨ys, h1, h2, h3⟩ := h
  have : ys = marks kd k n := eq_all h1.len (marks_len kd k n) fun j hj => by rw [h2 j hj, marks_at kd k hj]
  rw [← this]
  exact ⟨h1, h3⟩
def MarkPost (E : TypeId) (kd : IntKind) (w : World) (lo hi : Nat) (A : Option Addr) (n cap : Nat) (k : Int) (e : Ending) (w' : World) : Prop :=
  e = .returned (.int .i64 (k + n)) ∧ Ow E kd w' lo hi A n cap (marks kd k n) ∧ Tch lo hi w w'
theorem wf_u8_wrap (x : Int) : (Lit.int .u8 (IntKind.u8.wrap x)).wf = true := wf_wrap .u8 x
theorem ret_num {a b : Int} (h : a = b) : Ending.returned (.int .i64 a) = .returned (.int .i64 b) := by rw [h]

theorem markByteS (zs : List Int) (lo hi : Nat) (A : Option Addr) (n cap : Nat) (k : Int) (w : World) (h : Ow 5 .u8 w lo hi A n cap zs) (hk0 : 0 ≤ k) (hk : k ≤ 1099511627776) (hn : n ≤ 67108864) :
    Calls Try.prog 54 #[.slice A n cap, .int .i64 k] w (MarkPost 5 .u8 w lo hi A n cap k) := by
  have HR := Lib.hid h
  clear h
  go_enter Try.func54, Try.ntmps54
  go_wp2
  go_loopw [1, 5] (fun q i wr => ∃ j : Nat, i = .int .i64 j ∧ q = .int .i64 (k + j) ∧ j ≤ n ∧ Marked .u8 5 w wr lo hi A n cap k j) (fun _ i _ => n - (intOf i).toNat)
  case atStart => exact ⟨0, rfl, by simp, by omega, Marked.start HR.out k⟩
  case round =>
    obtain ⟨j, rfl, rfl, hj, hp⟩ := hrel
    have HP := Lib.hid hp
    clear hp
    by_cases hlt : j < n
    · obtain ⟨b, rfl⟩ : ∃ b, A = some ⟨b, 0, none⟩ := by
        obtain ⟨ys, h1, _⟩ := HP.out
        rcases h1.form with ⟨_, h0, _⟩ | ⟨g, cur, h, _⟩
        · omega
        · exact ⟨g, h⟩
      obtain ⟨v, hv⟩ : ∃ v, wr.cell? ⟨b, j, none⟩ = some v := by
        obtain ⟨ys, h1, _⟩ := HP.out
        obtain ⟨b', off, e, _, _, hc⟩ := h1.rd.at_ hlt
        injection e with e; injection e with e1 e2 e3
        subst e1 e2
        rw [Nat.zero_add] at hc
        exact ⟨_, hc⟩
      have hf : wr.frozen? ⟨b, j, none⟩ = false := by
        obtain ⟨ys, h1, _⟩ := HP.out
        exact h1.free rfl j
      have hlt2 : (j : Int) < n := by omega
      go_wp2
      go_roundw
      case rel => exact ⟨j + 1, by go_num, by go_num, by omega, HP.out.step hlt (wf_u8_wrap _)⟩
      case measure => simp [intOf]; omega
    · have hlt2 : ¬ (j : Int) < n := by omega
      obtain rfl : j = n := by omega
      go_wp2
      go_ret
      exact ⟨rfl, HP.out.done⟩

theorem heldByteS (lo hi : Nat) (A : Option Addr) (n cap : Nat) (k : Int) (w : World) (h : Rd .u8 w lo hi A n cap (marks .u8 k n)) (hk0 : 0 ≤ k) (hk : k ≤ 1099511627776) (hn : n ≤ 67108864) :
    Calls Try.prog 56 #[.slice A n cap, .int .i64 k] w fun e w' => e = .returned (.int .i64 (k + n)) ∧ w = w' := by
  have HR := Lib.hid h
  clear h
  go_enter Try.func56, Try.ntmps56
  go_wp2
  go_loop [1, 5] (fun q i => ∃ j : Nat, i = .int .i64 j ∧ q = .int .i64 (k + j) ∧ j ≤ n) (fun _ i => n - (intOf i).toNat)
  case atStart => exact ⟨0, rfl, by simp, by omega⟩
  case round =>
    obtain ⟨j, rfl, rfl, hj⟩ := hrel
    by_cases hlt : j < n
    · obtain ⟨b, off, rfl, h1, h2, hc⟩ := HR.out.at_ hlt
      rw [marks_at .u8 k hlt] at hc
      have hlt2 : (j : Int) < n := by omega
      go_wp2
      go_round
      case rel => exact ⟨j + 1, by go_num, by go_num, by omega⟩
      case measure => simp [intOf]; omega
    · have hlt2 : ¬ (j : Int) < n := by omega
      obtain rfl : j = n := by omega
      go_wp2
      go_ret
      exact ⟨rfl, rfl⟩

theorem wf_i64_wrap (x : Int) : (Lit.int .i64 (IntKind.i64.wrap x)).wf = true := wf_wrap .i64 x

end Go.Proofs.Ytjmenbpalihnnaa.harn
end

section
namespace Go.Proofs.Ytjmenbpalihnnaa.lawAt
open Go.RowKit sl harn
set_option linter.unusedVariables false

def atv (zs : List Int) (len k : Nat) : Int := if k < len then zs.getD k 0 else ((k : Int) * 31 + (len : Int) * 7) % 256
theorem atv_in {a : Option Addr} {len cap lo hi : Nat} {zs : List Int} {w : World} (h : Rd .u8 w lo hi a len cap zs) (k : Nat) : 0 ≤ atv zs len k ∧ atv zs len k ≤ 255 := by
  unfold atv
  split
  · rename_i hk
    have h1 := h.wf.getD (i := k) (by have := h.len; omega)
    have := bounds_u8 h1; omega
  · have h1 := Int.emod_nonneg ((k : Int) * 31 + (len : Int) * 7) (show (256 : Int) ≠ 0 by omega)
    have h2 := Int.emod_lt_of_pos ((k : Int) * 31 + (len : Int) * 7) (show (0 : Int) < 256 by omega)
    omega
theorem at_v (k : Nat) (i : Int) (hi : i = k) (h1 : k ≤ 1000) (v : Int) (a : Option Addr) (len cap lo hi' : Nat) (zs : List Int) (w : World) (h : Rd .u8 w lo hi' a len cap zs) (hl : len ≤ 1048576) (hv : atv zs len k = v) :
    Calls Try.prog 26 #[.slice a len cap, .int .i64 i] w fun e w' => e = .returned (.int .i64 v) ∧ w = w' := by
  subst hi
  have HR := Lib.hid h
  clear h
  by_cases hk : k < len
  · have hv' : zs.getD k 0 = v := by rw [← hv, atv, if_pos hk]
    obtain ⟨b, off, rfl, _, _, hc⟩ := HR.out.at_ hk
    have hx01 : 0 ≤ v ∧ v ≤ 255 := by rw [← hv]; exact atv_in HR.out k
    obtain ⟨hx0, hx1⟩ := hx01
    rw [hv'] at hc
    have hk2 : (k : Int) < len := by omega
    clear hv hv'
    go_enter Try.func26, Try.ntmps26
    go_wp2
    go_ret
    exact ⟨rfl, rfl⟩
  · have hv' : ((k : Int) * 31 + (len : Int) * 7) % 256 = v := by rw [← hv, atv, if_neg hk]
    have hk2 : ¬ (k : Int) < len := by omega
    clear hv
    go_enter Try.func26, Try.ntmps26
    go_wp2
    go_ret
    exact ⟨rfl, rfl⟩
end Go.Proofs.Ytjmenbpalihnnaa.lawAt
end

section
namespace Go.Proofs.Ytjmenbpalihnnaa.draw
open Go.RowKit

theorem low_bits (j : Nat) (hj : j ≤ 62) (n : Int) : bits .and .i64 n ((2 ^ j - 1 : Nat) : Int) = n % ((2 ^ j : Nat) : Int) := by
  have hp : (2 : Nat) ^ j ≤ 2 ^ 62 := Nat.pow_le_pow_right (by omega) hj
  have hp2 : (2 : Nat) ^ 62 = 4611686018427387904 := by decide
  have hpos : 0 < (2 : Nat) ^ j := Nat.two_pow_pos j
  have hm : (BitVec.ofInt 64 ((2 ^ j - 1 : Nat) : Int)).toNat = 2 ^ j - 1 := by
    rw [BitVec.toNat_ofInt]
    have : (((2 ^ j - 1 : Nat) : Int) % ((2 ^ 64 : Nat) : Int)) = ((2 ^ j - 1 : Nat) : Int) := Int.emod_eq_of_lt (by omega) (by omega)
    rw [this]; simp
  have key : (BitVec.ofInt 64 n &&& BitVec.ofInt 64 ((2 ^ j - 1 : Nat) : Int)).toNat = (n % ((2 ^ 64 : Nat) : Int)).toNat % 2 ^ j := by
    rw [BitVec.toNat_and, hm, BitVec.toNat_ofInt, Nat.and_two_pow_sub_one_eq_mod]
  show IntKind.i64.wrap ((BitVec.ofInt 64 n &&& BitVec.ofInt 64 ((2 ^ j - 1 : Nat) : Int)).toNat : Nat) = _
  rw [key]
  have hd : ((2 : Nat) ^ j) ∣ 2 ^ 64 := Nat.pow_dvd_pow 2 (by omega)
  have e : (((n % ((2 ^ 64 : Nat) : Int)).toNat % 2 ^ j : Nat) : Int) = n % ((2 ^ j : Nat) : Int) := by
    rw [Int.natCast_emod, Int.toNat_of_nonneg (Int.emod_nonneg _ (by decide))]
    exact Int.emod_emod_of_dvd n (Int.natCast_dvd_natCast.2 hd)
  rw [e, IntKind.wrap_i64]
  have h1 : 0 ≤ n % ((2 ^ j : Nat) : Int) := Int.emod_nonneg _ (by omega)
  have h2 : n % ((2 ^ j : Nat) : Int) < ((2 ^ j : Nat) : Int) := Int.emod_lt_of_pos _ (by omega)
  omega
theorem low8 (n : Int) : bits .and .i64 n 255 = n % 256 := low_bits 8 (by omega) n
theorem low30 (n : Int) : bits .and .i64 n 1073741823 = n % 1073741824 := low_bits 30 (by omega) n

/-- Only block p of what was there may have been written. -/
structure Keep (p : Nat) (w w' : World) : Prop where
  os : w'.os = w.os
  tape : w'.tape = w.tape
  output : w'.output = w.output
  size : w.heap.size ≤ w'.heap.size
  block : ∀ k, k < w.heap.size → k ≠ p → w'.heap[k]? = w.heap[k]?
theorem Keep.refl (p : Nat) (w : World) : Keep p w w := ⟨rfl, rfl, rfl, Nat.le_refl _, fun _ _ _ => rfl⟩
theorem Keep.trans {p : Nat} {a b c : World} (h : Keep p a b) (k : Keep p b c) : Keep p a c :=
  ⟨k.os.trans h.os, k.tape.trans h.tape, k.output.trans h.output, Nat.le_trans h.size k.size, fun j hj hn => (k.block j (Nat.lt_of_lt_of_le hj h.size) hn).trans (h.block j hj hn)⟩
theorem Keep.below {p B : Nat} {w w' : World} (h : Keep p w w') (hB : B ≤ p) (hs : p < w.heap.size) : Below B w w' :=
  ⟨h.os, h.tape, h.output, h.size, fun k hk => h.block k (by omega) (by omega)⟩
theorem Keep.drew {p : Nat} {a w : World} (h : Keep p a w) : Keep p a w.drew := ⟨h.os, h.tape, h.output, h.size, h.block⟩
theorem Keep.drewN {p : Nat} {a w : World} (h : Keep p a w) (n : Nat) : Keep p a (w.drewN n) := ⟨h.os, h.tape, h.output, h.size, h.block⟩
theorem Keep.setCell {p o : Nat} {a w : World} (h : Keep p a w) (v : Value) : Keep p a (w.setCell ⟨p, o, none⟩ v) :=
  ⟨h.os, h.tape, h.output, by simpa using h.size, fun k hk hn => by rw [Below.heap_setCell w ⟨p, o, none⟩ v k hn]; exact h.block k hk hn⟩
theorem Keep.alloc {p : Nat} {a w : World} (h : Keep p a w) (o : Obj) : Keep p a (w.alloc o) :=
  ⟨h.os, h.tape, h.output, by simp; have := h.size; omega, fun k hk hn => by rw [Below.heap_alloc w o k (Nat.lt_of_lt_of_le hk h.size)]; exact h.block k hk hn⟩
theorem Keep.cell {p : Nat} {w w' : World} (h : Keep p w w') {q : Addr} (hq : q.block < w.heap.size) (hn : q.block ≠ p) : w'.cell? q = w.cell? q := World.cell?_of_block (w := w) (h.block q.block hq hn)

/-- A block of three cells. -/
theorem cell3_0 {w : World} {b : Nat} {x y z : Value} {t : TypeId} (h : w.heap[b]? = some (.cells #[x, y, z] t (0, 0))) : w.cell? ⟨b, 0, none⟩ = some x := by simp [World.cell?, h]
theorem cell3_1 {w : World} {b : Nat} {x y z : Value} {t : TypeId} (h : w.heap[b]? = some (.cells #[x, y, z] t (0, 0))) : w.cell? ⟨b, 1, none⟩ = some y := by simp [World.cell?, h]
theorem cell3_2 {w : World} {b : Nat} {x y z : Value} {t : TypeId} (h : w.heap[b]? = some (.cells #[x, y, z] t (0, 0))) : w.cell? ⟨b, 2, none⟩ = some z := by simp [World.cell?, h]
theorem free3 {w : World} {b : Nat} {x y z : Value} {t : TypeId} (h : w.heap[b]? = some (.cells #[x, y, z] t (0, 0))) (k : Nat) : w.frozen? ⟨b, k, none⟩ = false := by simp [World.frozen?, h]
theorem set3_1 {w : World} {b : Nat} {x y z u : Value} {t : TypeId} (h : w.heap[b]? = some (.cells #[x, y, z] t (0, 0))) : (w.setCell ⟨b, 1, none⟩ u).heap[b]? = some (.cells #[x, u, z] t (0, 0)) := by
  have hlt := lt_of_block h
  have h' : w.heap[b] = .cells #[x, y, z] t (0, 0) := by simpa [Array.getElem?_eq_getElem hlt] using h
  show (w.heap.modify b _)[b]? = _
  rw [Array.getElem?_eq_getElem (by simpa using hlt), Array.getElem_modify_self, h']
  rfl
theorem set3_2 {w : World} {b : Nat} {x y z u : Value} {t : TypeId} (h : w.heap[b]? = some (.cells #[x, y, z] t (0, 0))) : (w.setCell ⟨b, 2, none⟩ u).heap[b]? = some (.cells #[x, y, u] t (0, 0)) := by
  have hlt := lt_of_block h
  have h' : w.heap[b] = .cells #[x, y, z] t (0, 0) := by simpa [Array.getElem?_eq_getElem hlt] using h
  show (w.heap.modify b _)[b]? = _
  rw [Array.getElem?_eq_getElem (by simpa using hlt), Array.getElem_modify_self, h']
  rfl

/-- The bytes that a draw reads. -/
def Code (w : World) (p : Nat) (a : Option Addr) (len : Nat) : Prop :=
  len ≤ 9223372036854775807 ∧ (0 < len → ∃ b off, a = some ⟨b, off, none⟩ ∧ b ≠ p ∧ b < w.heap.size ∧ ∀ i, i < len → ∃ z : Int, 0 ≤ z ∧ z ≤ 255 ∧ w.cell? ⟨b, off + i, none⟩ = some (.int .u8 z))
theorem Code.keep {w w' : World} {p : Nat} {a : Option Addr} {len : Nat} (h : Code w p a len) (k : Keep p w w') : Code w' p a len := by
  refine ⟨h.1, fun hl => ?_⟩
  obtain ⟨b, off, e, hn, hb, hc⟩ := h.2 hl
  refine ⟨b, off, e, hn, Nat.lt_of_lt_of_le hb k.size, fun i hi => ?_⟩
  obtain ⟨z, h1, h2, h3⟩ := hc i hi
  exact ⟨z, h1, h2, by rw [k.cell hb hn]; exact h3⟩
/-- The cursor at block p. -/
def Cur (w : World) (p : Nat) (a : Option Addr) (len cap : Nat) : Prop :=
  Code w p a len ∧ ∃ (i : Nat) (h : Int), i ≤ len ∧ w.heap[p]? = some (.cells #[.slice a len cap, .int .i64 i, .int .i64 h] 106 (0, 0))

def BytePost (p : Nat) (a : Option Addr) (len cap : Nat) (w : World) (e : Ending) (w' : World) : Prop := ∃ x : Int, e = .returned (.int .i64 x) ∧ 0 ≤ x ∧ x ≤ 255 ∧ Keep p w w' ∧ Cur w' p a len cap

theorem byte_more (w : World) (p : Nat) (a : Option Addr) (len cap : Nat) (hcode : Code w p a len) (i : Nat) (h : Int) (hlt : i < len) (hb : w.heap[p]? = some (.cells #[.slice a len cap, .int .i64 i, .int .i64 h] 106 (0, 0))) :
    Calls Try.prog 106 #[.pointer (some ⟨p, 0, none⟩)] w (BytePost p a len cap w) := by
  have c0 := cell3_0 hb
  have c1 := cell3_1 hb
  have c2 := cell3_2 hb
  have z1 := free3 hb 1
  have z2 := free3 hb 2
  have HB := Lib.hid hb
  have HC := Lib.hid hcode
  clear hb
  obtain ⟨b, off, rfl, hbp, -, hcells⟩ := hcode.2 (by omega)
  obtain ⟨z, hz0, hz1, hz⟩ := hcells i hlt
  clear hcells
  have hlt2 : (i : Int) < len := by omega
  have hlen : (len : Int) ≤ 9223372036854775807 := by have := hcode.1; omega
  have HI := Lib.hid hlt
  clear hcode hlt
  go_enter Try.func106, Try.ntmps106
  go_wp2
  generalize wrap64 (wrap64 (h * 6364136223846793005) + 1442695040888963407) = g
  go_quiet (fail)
  obtain ⟨x, hx⟩ : ∃ x, bits BinOp.and IntKind.i64 (bits BinOp.xor IntKind.i64 (g / 8589934592) (g / 140737488355328)) 255 = x := ⟨_, rfl⟩
  have hx0 : 0 ≤ x := by rw [← hx, low8]; omega
  have hx1 : x ≤ 255 := by rw [← hx, low8]; omega
  rw [hx]
  clear hx
  go_wp2
  go_quiet (fail)
  go_wp2
  go_quiet (fail)
  obtain ⟨y, hy⟩ : ∃ y, bits BinOp.and IntKind.i64 (x + z) 255 = y := ⟨_, rfl⟩
  have hy0 : 0 ≤ y := by rw [← hy, low8]; omega
  have hy1 : y ≤ 255 := by rw [← hy, low8]; omega
  rw [hy]
  clear hy
  go_wp2
  go_ret
  have K1 := ((((Keep.refl p w).setCell (o := 2) (.int .i64 g)).drewN 1).setCell (o := 1) (.int .i64 (i + 1)))
  refine ⟨y, rfl, hy0, hy1, ⟨K1.os, K1.tape, K1.output, K1.size, K1.block⟩, HC.out.keep ⟨K1.os, K1.tape, K1.output, K1.size, K1.block⟩, i + 1, g, HI.out, ?_⟩
  exact set3_1 (w := World.drewN _ _) (set3_2 HB.out)

theorem byte_less (w : World) (p : Nat) (a : Option Addr) (len cap : Nat) (hcode : Code w p a len) (i : Nat) (h : Int) (hi : i ≤ len) (hlt : ¬ i < len) (hb : w.heap[p]? = some (.cells #[.slice a len cap, .int .i64 i, .int .i64 h] 106 (0, 0))) :
    Calls Try.prog 106 #[.pointer (some ⟨p, 0, none⟩)] w (BytePost p a len cap w) := by
  have c0 := cell3_0 hb
  have c1 := cell3_1 hb
  have c2 := cell3_2 hb
  have z1 := free3 hb 1
  have z2 := free3 hb 2
  have HB := Lib.hid hb
  have HC := Lib.hid hcode
  clear hb
  clear hcode
  go_enter Try.func106, Try.ntmps106
  go_wp2
  generalize wrap64 (wrap64 (h * 6364136223846793005) + 1442695040888963407) = g
  go_quiet (fail)
  obtain ⟨x, hx⟩ : ∃ x, bits BinOp.and IntKind.i64 (bits BinOp.xor IntKind.i64 (g / 8589934592) (g / 140737488355328)) 255 = x := ⟨_, rfl⟩
  have hx0 : 0 ≤ x := by rw [← hx, low8]; omega
  have hx1 : x ≤ 255 := by rw [← hx, low8]; omega
  rw [hx]
  clear hx
  have hge : ¬ (i : Int) < len := by omega
  have HI := Lib.hid hi
  clear hi hlt
  go_wp2
  go_quiet (fail)
  go_wp2
  go_ret
  exact ⟨x, rfl, hx0, hx1, ((((Keep.refl p w).setCell _).drewN _).drewN _), HC.out.keep (((Keep.refl p w).setCell _).drewN _ |>.drewN _), i, g, HI.out, set3_2 HB.out⟩

theorem byte (w : World) (p : Nat) (a : Option Addr) (len cap : Nat) (hc : Cur w p a len cap) :
    Calls Try.prog 106 #[.pointer (some ⟨p, 0, none⟩)] w (BytePost p a len cap w) := by
  obtain ⟨hcode, i, h, hi, hb⟩ := hc
  by_cases hlt : i < len
  · exact byte_more w p a len cap hcode i h hlt hb
  · exact byte_less w p a len cap hcode i h hi hlt hb

def BelowPost (n : Int) (p : Nat) (a : Option Addr) (len cap : Nat) (w : World) (e : Ending) (w' : World) : Prop := ∃ x : Int, e = .returned (.int .i64 x) ∧ 0 ≤ x ∧ (0 < n → x < n) ∧ Keep p w w' ∧ Cur w' p a len cap

theorem below (n : Int) (hn : n ≤ 9223372036854775807) (w : World) (p : Nat) (a : Option Addr) (len cap : Nat) (hc : Cur w p a len cap) :
    Calls Try.prog 100 #[.pointer (some ⟨p, 0, none⟩), .int .i64 n] w (BelowPost n p a len cap w) := by
  have C0 := Lib.hid hc
  clear hc
  by_cases h1 : n ≤ 0
  · go_enter Try.func100, Try.ntmps100
    go_wp2
    go_ret
    exact ⟨0, rfl, by omega, by omega, Keep.refl _ _, C0.out⟩
  · have h0 : 1 ≤ n := by omega
    by_cases h2 : n ≤ 256
    · clear hn
      go_enter Try.func100, Try.ntmps100
      go_wp2_with (go_at_call 106; refine (byte _ p a len cap C0.out).mono ?_; rintro e w1 ⟨x, rfl, hx0, hx1, hk, hc⟩; have K1 := Lib.hid hk; have C1 := Lib.hid hc; clear hk hc)
      go_ret
      exact ⟨x % n, rfl, Int.emod_nonneg _ (by omega), fun _ => Int.emod_lt_of_pos _ (by omega), K1.out, C1.out⟩
    · go_enter Try.func100, Try.ntmps100
      go_wp2_with (go_at_call 106; refine (byte _ p a len cap C0.out).mono ?_; rintro e w1 ⟨x, rfl, hx0, hx1, hk, hc⟩; have K1 := Lib.hid hk; have C1 := Lib.hid hc; clear hk hc C0)
      go_wp2_with (go_at_call 106; refine (byte _ p a len cap C1.out).mono ?_; rintro e w2 ⟨y, rfl, hy0, hy1, hk, hc⟩; have K2 := Lib.hid (K1.out.trans hk); have C2 := Lib.hid hc; clear hk hc C1 K1)
      go_wp2_with (go_at_call 106; refine (byte _ p a len cap C2.out).mono ?_; rintro e w3 ⟨z, rfl, hz0, hz1, hk, hc⟩; have K3 := Lib.hid (K2.out.trans hk); have C3 := Lib.hid hc; clear hk hc C2 K2)
      go_ret
      exact ⟨_, rfl, Int.emod_nonneg _ (by omega), fun _ => Int.emod_lt_of_pos _ (by omega), K3.out, C3.out⟩

def OncePost (p : Nat) (a : Option Addr) (len cap : Nat) (w : World) (e : Ending) (w' : World) : Prop := ∃ b : Bool, e = .returned (.bool b) ∧ Keep p w w' ∧ Cur w' p a len cap
theorem once (n : Int) (hn : n ≤ 9223372036854775807) (w : World) (p : Nat) (a : Option Addr) (len cap : Nat) (hc : Cur w p a len cap) :
    Calls Try.prog 113 #[.pointer (some ⟨p, 0, none⟩), .int .i64 n] w (OncePost p a len cap w) := by
  have HC := fun W => below n hn W p a len cap
  have C0 := Lib.hid hc
  clear hc hn
  go_enter Try.func113, Try.ntmps113
  go_wp2_with (go_at_call 100; refine (HC _ C0.out).mono ?_; rintro e w1 ⟨x, rfl, hx0, hx1, hk, hc⟩; have K1 := Lib.hid hk; have C1 := Lib.hid hc; clear hk hc hx1)
  go_ret
  exact ⟨_, rfl, K1.out, C1.out⟩

/-- A list of the call's own: n cells of block q, each of which holds a value for which P stands. -/
def Row (P : Value → Prop) (w : World) (p q n : Nat) : Prop := q ≠ p ∧ q < w.heap.size ∧ ∀ i, i < n → ∃ v, P v ∧ w.cell? ⟨q, i, none⟩ = some v
theorem Row.keep {P : Value → Prop} {w w' : World} {p q n : Nat} (h : Row P w p q n) (k : Keep p w w') : Row P w' p q n :=
  ⟨h.1, Nat.lt_of_lt_of_le h.2.1 k.size, fun i hi => by
    obtain ⟨v, h1, h2⟩ := h.2.2 i hi
    exact ⟨v, h1, by rw [k.cell h.2.1 h.1]; exact h2⟩⟩

def PickPost (P : Value → Prop) (p : Nat) (a : Option Addr) (len cap : Nat) (w : World) (e : Ending) (w' : World) : Prop := ∃ v, e = .returned v ∧ P v ∧ Keep p w w' ∧ Cur w' p a len cap
theorem pickInt (P : Int → Prop) (n : Nat) (hn0 : 0 < n) (hn : (n : Int) ≤ 9223372036854775807) (w : World) (p q : Nat) (a : Option Addr) (len cap cap2 : Nat) (hr : Row (fun v => ∃ z, v = .int .i64 z ∧ P z) w p q n) (hc : Cur w p a len cap) :
    Calls Try.prog 74 #[.pointer (some ⟨p, 0, none⟩), .slice (some ⟨q, 0, none⟩) n cap2] w (PickPost (fun v => ∃ z, v = .int .i64 z ∧ P z) p a len cap w) := by
  have HC := fun W => below n hn W p a len cap
  have C0 := Lib.hid hc
  have R0 := Lib.hid hr
  clear hc hr
  go_enter Try.func74, Try.ntmps74
  go_wp2_with (go_at_call 100; refine (HC _ C0.out).mono ?_; rintro e w1 ⟨x, rfl, hx0, hx1, hk, hc⟩; have R1 := Lib.hid (R0.out.keep hk); have K1 := Lib.hid hk; have C1 := Lib.hid hc; clear hk hc R0 C0 HC; (obtain ⟨m, rfl⟩ : ∃ m : Nat, x = m := ⟨x.toNat, by omega⟩); (have hm : m < n := by have := hx1 (by omega); omega); (obtain ⟨v, ⟨z, rfl, hP⟩, hv⟩ := R1.out.2.2 m hm); have HP := Lib.hid hP; clear hP hx1)
  go_ret
  exact ⟨_, rfl, ⟨z, rfl, HP.out⟩, K1.out, C1.out⟩
theorem lt_of_cell {w : World} {a : Addr} {v : Value} (h : w.cell? a = some v) : a.block < w.heap.size := by
  rcases Nat.lt_or_ge a.block w.heap.size with h1 | h1
  · exact h1
  · exfalso
    have : w.heap[a.block]? = none := Array.getElem?_eq_none h1
    simp [World.cell?, this] at h
/-- What a slice of bytes that came in gives. -/
theorem code_of_row {w : World} {a : Option Addr} {len cap : Nat} {zs : List Int} (h : kit.IsRow .u8 w a len cap zs) : Code w w.heap.size a len := by
  rcases h with ⟨rfl, rfl, rfl, rfl⟩ | ⟨x, rfl, hl, hm, hz, hc, hw⟩
  · exact ⟨by omega, fun h => absurd h (by omega)⟩
  · unfold maxLen at hm
    refine ⟨by omega, fun h => ?_⟩
    obtain ⟨b, off, rfl, hcell⟩ := ints_at hc (by omega)
    have e0 := hcell 0 (by omega)
    have hb : b < w.heap.size := lt_of_cell (a := ⟨b, off + 0, none⟩) e0
    refine ⟨b, off, rfl, by omega, hb, fun i hi => ⟨zs.getD i 0, ?_, ?_, hcell i (by omega)⟩⟩
    · have := (range_u8 hw i).1; simpa [List.getD] using this
    · have := (range_u8 hw i).2; simpa [List.getD] using this

def NewPost (a : Option Addr) (len cap : Nat) (w : World) (e : Ending) (w' : World) : Prop := e = .returned (.pointer (some ⟨w.heap.size, 0, none⟩)) ∧ Keep w.heap.size w w' ∧ w.heap.size < w'.heap.size ∧ Cur w' w.heap.size a len cap
theorem new_end (w : World) (a : Option Addr) (len cap : Nat) (h : Int) (hc : Code w w.heap.size a len) :
    NewPost a len cap w (.returned (.pointer (some ⟨w.heap.size, 0, none⟩))) (w.alloc (.cells #[.slice a len cap, .int .i64 0, .int .i64 h] 106)) := by
  have K : Keep w.heap.size w (w.alloc (.cells #[.slice a len cap, .int .i64 0, .int .i64 h] 106)) := (Keep.refl _ _).alloc _
  exact ⟨rfl, K, by simp, hc.keep K, 0, h, by omega, by show (w.heap.push _)[w.heap.size]? = _; simp⟩
theorem new (w : World) (a : Option Addr) (len cap : Nat) (hc : Code w w.heap.size a len) :
    Calls Try.prog 59 #[.slice a len cap] w (NewPost a len cap w) := by
  have HC := Lib.hid hc
  have hlen : (len : Int) ≤ 9223372036854775807 := by have := hc.1; omega
  clear hc
  go_enter Try.func59, Try.ntmps59
  go_wp2
  go_loop [3, 4] (fun g i => ∃ (k : Nat) (h : Int), k ≤ len ∧ g = .int .i64 h ∧ i = .int .i64 k) (fun _ i => len - (intOf i).toNat)
  case atStart => exact ⟨0, _, by omega, rfl, rfl⟩
  case round =>
    obtain ⟨k, h, hk, rfl, rfl⟩ := hrel
    by_cases hlt : k < len
    · have hlt2 : (k : Int) < len := by omega
      by_cases h4 : (k : Int) < 4000
      · obtain ⟨b, off, rfl, hbp, -, hcells⟩ := HC.out.2 (by omega)
        obtain ⟨z, hz0, hz1, hz⟩ := hcells k hlt
        have HI := Lib.hid hlt
        clear hcells hk hlt hlen
        go_wp2
        go_round
        case rel => exact ⟨k + 1, _, HI.out, rfl, by go_num⟩
        case measure => have := HI.out; simp [intOf]; omega
      · go_wp2
        go_ret
        exact new_end w a len cap h HC.out
    · have hlt2 : ¬ (k : Int) < len := by omega
      go_wp2
      go_ret
      exact new_end w a len cap h HC.out
end Go.Proofs.Ytjmenbpalihnnaa.draw
end

section
namespace Go.Proofs.Ytjmenbpalihnnaa.draw
open Go.RowKit

def okInt (lo hi : Int) : Value → Bool
  | .int .i64 z => decide (lo ≤ z ∧ z ≤ hi)
  | _ => false
theorem of_okInt {lo hi : Int} {v : Value} (h : okInt lo hi v = true) : ∃ z, v = .int .i64 z ∧ (lo ≤ z ∧ z ≤ hi) := by
  unfold okInt at h
  split at h
  · exact ⟨_, rfl, of_decide_eq_true h⟩
  · cases h
theorem row_new {P : Value → Prop} {ok : Value → Bool} (hok : ∀ v, ok v = true → P v) (w : World) (p : Nat) (hp : p < w.heap.size) (vs : Array Value) (t : TypeId) (n : Nat) (hn : vs.size = n) (ha : vs.toList.all ok = true) :
    Row P (w.alloc (.cells vs t)) p w.heap.size n := by
  have hb : (w.alloc (.cells vs t)).heap[w.heap.size]? = some (.cells vs t (0, 0)) := by show (w.heap.push _)[w.heap.size]? = _; simp
  refine ⟨by omega, by simp, fun i hi => ⟨vs[i]'(by omega), hok _ (List.all_eq_true.1 ha _ (by simp)), ?_⟩⟩
  have hi2 : i < vs.size := by omega
  simp only [World.cell?, hb]
  exact Array.getElem?_eq_getElem hi2
theorem Cur.lt {w : World} {p : Nat} {a : Option Addr} {len cap : Nat} (h : Cur w p a len cap) : p < w.heap.size := by
  obtain ⟨-, i, g, -, hb⟩ := h
  exact lt_of_block hb
theorem Cur.alloc {w : World} {p : Nat} {a : Option Addr} {len cap : Nat} (h : Cur w p a len cap) (o : Obj) : Cur (w.alloc o) p a len cap := by
  have hp := h.lt
  obtain ⟨hc, i, g, hi, hb⟩ := h
  exact ⟨hc.keep ((Keep.refl p w).alloc o), i, g, hi, by rw [Below.heap_alloc w o p hp]; exact hb⟩

/-- A number in a range. -/
def IntPost (lo hi : Int) (p : Nat) (a : Option Addr) (len cap : Nat) (w : World) (e : Ending) (w' : World) : Prop := ∃ z : Int, e = .returned (.int .i64 z) ∧ lo ≤ z ∧ z ≤ hi ∧ Keep p w w' ∧ Cur w' p a len cap

theorem pickIn (lo hi : Int) (n : Nat) (hn0 : 0 < n) (hn : (n : Int) ≤ 9223372036854775807) (w : World) (p : Nat) (a : Option Addr) (len cap : Nat) (hc : Cur w p a len cap) (vs : Array Value) (hs : vs.size = n) (ha : vs.toList.all (okInt lo hi) = true) :
    Calls Try.prog 74 #[.pointer (some ⟨p, 0, none⟩), .slice (some ⟨w.heap.size, 0, none⟩) n n] (w.alloc (.cells vs 3)) (IntPost lo hi p a len cap w) := by
  refine (pickInt (fun z => lo ≤ z ∧ z ≤ hi) n hn0 hn _ p w.heap.size a len cap n (row_new (fun v => of_okInt) w p hc.lt vs 3 n hs ha) (hc.alloc _)).mono ?_
  rintro e w1 ⟨v, rfl, ⟨z, rfl, h1, h2⟩, hk, hc1⟩
  exact ⟨z, rfl, h1, h2, ((Keep.refl p w).alloc _).trans hk, hc1⟩

theorem keep_below {w w1 w2 : World} (h : Keep w.heap.size w w1) (h2 : Keep w.heap.size w1 w2) : Below w.heap.size w w2 :=
  have k := h.trans h2
  ⟨k.os, k.tape, k.output, k.size, fun j hj => k.block j hj (by omega)⟩
theorem code_later {w w' : World} {a : Option Addr} {len : Nat} (h : Code w w.heap.size a len) (hb : Below w.heap.size w w') : Code w' w'.heap.size a len := by
  refine ⟨h.1, fun hl => ?_⟩
  obtain ⟨b, off, e, -, hlt, hc⟩ := h.2 hl
  have := hb.size
  refine ⟨b, off, e, by omega, by omega, fun i hi => ?_⟩
  obtain ⟨z, h1, h2, h3⟩ := hc i hi
  exact ⟨z, h1, h2, by rw [hb.cell (p := ⟨b, off + i, none⟩) hlt]; exact h3⟩
end Go.Proofs.Ytjmenbpalihnnaa.draw
end

section
namespace Go.Proofs.Ytjmenbpalihnnaa.sl
open Go.RowKit

section
variable {k : IntKind} {w w' : World} {lo hi n cap : Nat} {A : Option Addr} {zs : List Int} {E : TypeId}
theorem Rd.one (k : IntKind) (E : TypeId) (w : World) (x : Int) (hx : (Lit.int k x).wf = true) : Rd k (w.alloc (.cells #[.int k x] E)) w.heap.size (w.heap.size + 1) (some ⟨w.heap.size, 0, none⟩) 1 1 [x] :=
  ⟨rfl, by omega, by unfold maxLen; omega, by simp, Wf.one hx, fun _ => ⟨_, 0, rfl, Nat.le_refl _, by omega, fun i hi => by
    obtain rfl : i = 0 := by omega
    simp⟩⟩
theorem Ow.alloc (h : Ow E k w lo hi A n cap zs) (o : Obj) : Ow E k (w.alloc o) lo hi A n cap zs := h.below ((Below.refl _ _).alloc (Nat.le_refl _) _)
theorem Rd.alloc (h : Rd k w lo hi A n cap zs) (o : Obj) : Rd k (w.alloc o) lo hi A n cap zs := h.below ((Below.refl _ _).alloc (Nat.le_refl _) _)
theorem Ow.up (h : Ow E k w lo hi A n cap zs) : Ow E k w lo w.heap.size A n cap zs := ⟨h.1, h.2.1, Nat.le_refl _, fun g o e => by have := h.2.2.2 g o e; have := h.hi_; omega⟩
theorem Ow.down {lo2 : Nat} (h : Ow E k w lo hi A n cap zs) (hl : lo2 ≤ lo) : Ow E k w lo2 hi A n cap zs := by
  obtain ⟨⟨h1, h2⟩, h3, h4, h5⟩ := h
  refine ⟨⟨h1, ?_⟩, h3, h4, h5⟩
  rcases h2 with h2 | ⟨g, c, cur, e, g1, g2⟩
  · exact Or.inl h2
  · exact Or.inr ⟨g, c, cur, e, by omega, g2⟩
theorem Ow.nil_ (E : TypeId) (k : IntKind) (w : World) (lo hi : Nat) (hh : hi ≤ w.heap.size) : Ow E k w lo hi none 0 0 [] :=
  ⟨⟨rfl, Or.inl ⟨rfl, rfl⟩⟩, Wf.nil k, hh, fun _ _ e => by cases e⟩
theorem Ow.empty (E : TypeId) (k : IntKind) (w : World) : Ow E k (w.alloc (.cells #[] E)) w.heap.size (w.heap.size + 1) (some ⟨w.heap.size, 0, none⟩) 0 0 [] := by
  have := Ow.lit (E := E) (k := k) (n := 0) w #[] [] rfl (Wf.nil k) (by unfold maxLen; simp) rfl
  simpa using this
end

theorem app {P : Program} (t ty E : TypeId) (i : TypeInfo) (z : Value) (k : IntKind) (h1 : P.underlying t = some (.slice E)) (h2 : P.info? E = some i) (h3 : i.zero = some z) (h4 : i.size = 1) (h5 : i.bytes ≤ 8) (h6 : z.cells.size = 1)
    {w : World} {lo hi lo2 hi2 n cap m c : Nat} {A B : Option Addr} {zs ys : List Int} (ho : Ow E k w lo hi A n cap zs) (hr : Rd k w lo2 hi2 B m c ys) (hn : n + m ≤ 1073741824) (hlo : lo ≤ w.heap.size) :
    ∃ A' cap' w', (Builtin.append_ #[t, t] ty #[.slice A n cap, .slice B m c]).run P w = .ok (.slice A' (n + m) cap') w' ∧ Ow E k w' lo w'.heap.size A' (n + m) cap' (zs ++ ys) ∧ Below lo w w' := by
  have hwf : Wf k (zs ++ ys) := ho.wf.append hr.wf
  cases B with
  | none =>
    have hm : m = 0 := by
      rcases Nat.eq_zero_or_pos m with h | h
      · exact h
      · obtain ⟨b, off, e, _⟩ := hr.at_ h; cases e
    subst hm
    have hy : ys = [] := List.eq_nil_of_length_eq_zero hr.len
    subst hy
    refine ⟨A, cap, w, ?_, by simpa using ho.up, Below.refl _ _⟩
    rcases ho.form with ⟨rfl, rfl, rfl⟩ | ⟨g, cur, rfl, _, _, _, hnc, _⟩
    · simp [Builtin.append_, run_underlying h1, sizeOf, typeInfo, h2, Builtin.lenOf, Builtin.firstCells]
    · simp [Builtin.append_, run_underlying h1, sizeOf, typeInfo, h2, Builtin.lenOf, Builtin.firstCells, hnc, storeCells]
  | some ad =>
    have hcells : ∀ j u, (ys.map (Value.int k))[j]? = some u → w.cell? (ad.add j) = some u := by
      intro j u hu
      have hj : j < ys.length := by
        have := (List.getElem?_eq_some_iff.1 hu).1
        simpa using this
      have hl := hr.len
      obtain ⟨b, off, e, _, _, hc⟩ := hr.at_ (i := j) (by omega)
      injection e with e
      subst e
      have e2 : (⟨b, off, none⟩ : Addr).add j = ⟨b, off + j, none⟩ := by unfold Addr.add; split <;> simp_all
      rw [e2, hc]
      rw [List.getElem?_map, List.getElem?_eq_getElem hj] at hu
      rw [List.getD_eq_getElem?_getD, List.getElem?_eq_getElem hj]
      simpa using hu
    have hb8 : (n + m) * i.bytes ≤ 140737488355328 := by
      have := Nat.mul_le_mul hn h5
      omega
    obtain ⟨v', w', hrun, g1, g2, _, g3⟩ := run_append_own_at (P := P) w lo t ty E i z 1 i.bytes h1 h2 h3 h4 rfl h6 (by omega) _ n _ ho.1 ad m c (ys.map (Value.int k)) (by simpa using hr.len) hcells (one_cells k ys) (by unfold maxLen; omega) hb8 hlo
    rw [← List.map_append] at g1
    obtain ⟨A', cap', rfl, hO⟩ := Ow.of_own g1 hwf
    refine ⟨A', cap', w', hrun, hO, (Below.refl _ _).grown g2 hlo fun q hq => ?_⟩
    rcases ho.form with ⟨rfl, _⟩ | ⟨g, cur, rfl, hg, _⟩
    · simp [Value.ownBlock] at hq
    · simp [Value.ownBlock] at hq; omega

theorem wpList_app {P : Program} (w : World) {ops : Array Oper} {rest : List Oper} {o : Oper} {a : Act} {Q : Exit → Act → World → Prop} (hg : o.guard = none) (s x : Operand) (t : TypeId)
    (hop : o.op = .call { callee := .builtin .append, args := #[s, x], argTypes := #[t, t] })
    (E : TypeId) (i : TypeInfo) (z : Value) (k : IntKind) (h1 : P.underlying t = some (.slice E)) (h2 : P.info? E = some i) (h3 : i.zero = some z) (h4 : i.size = 1) (h5 : i.bytes ≤ 8) (h6 : z.cells.size = 1)
    {lo hi lo2 hi2 n cap m c : Nat} {A B : Option Addr} {zs ys : List Int} (hs : a.eval s = .slice A n cap) (hx : a.eval x = .slice B m c) (ho : Ow E k w lo hi A n cap zs) (hr : Rd k w lo2 hi2 B m c ys) (hn : n + m ≤ 1073741824) (hlo : lo ≤ w.heap.size)
    (hK : ∀ A' cap' w', Ow E k w' lo w'.heap.size A' (n + m) cap' (zs ++ ys) → Below lo w w' → wpList P ops Q rest (a.put o.dst (.slice A' (n + m) cap')) w') : wpList P ops Q (o :: rest) a w := by
  refine wpList_plain hg fun K hK' => ?_
  obtain ⟨A', cap', w', hrun, g1, g2⟩ := app (P := P) t o.type E i z k h1 h2 h3 h4 h5 h6 ho hr hn hlo
  unfold Oper.wp execOp
  simp only [hop, resolve, invoke, builtin, Sem.run_bind, Sem.run_pure, Result.andThen_ok, List.map_toArray, List.map_cons, List.map_nil, hs, hx, hrun]
  exact hK' _ _ (hK A' cap' w' g1 g2)
/-- The same at an operation under a guard that says yes. -/
theorem wpList_app_want {P : Program} (w : World) {ops : Array Oper} {rest : List Oper} {o : Oper} {a : Act} {Q : Exit → Act → World → Prop} (hg : Region.wanted o (yielded ops a.tmps) = true) (s x : Operand) (t : TypeId)
    (hop : o.op = .call { callee := .builtin .append, args := #[s, x], argTypes := #[t, t] })
    (E : TypeId) (i : TypeInfo) (z : Value) (k : IntKind) (h1 : P.underlying t = some (.slice E)) (h2 : P.info? E = some i) (h3 : i.zero = some z) (h4 : i.size = 1) (h5 : i.bytes ≤ 8) (h6 : z.cells.size = 1)
    {lo hi lo2 hi2 n cap m c : Nat} {A B : Option Addr} {zs ys : List Int} (hs : a.eval s = .slice A n cap) (hx : a.eval x = .slice B m c) (ho : Ow E k w lo hi A n cap zs) (hr : Rd k w lo2 hi2 B m c ys) (hn : n + m ≤ 1073741824) (hlo : lo ≤ w.heap.size)
    (hK : ∀ A' cap' w', Ow E k w' lo w'.heap.size A' (n + m) cap' (zs ++ ys) → Below lo w w' → wpList P ops Q rest (a.put o.dst (.slice A' (n + m) cap')) w') : wpList P ops Q (o :: rest) a w := by
  refine Go.BigFrame.wpList_want hg fun K hK' => ?_
  obtain ⟨A', cap', w', hrun, g1, g2⟩ := app (P := P) t o.type E i z k h1 h2 h3 h4 h5 h6 ho hr hn hlo
  unfold Oper.wp execOp
  simp only [hop, resolve, invoke, builtin, Sem.run_bind, Sem.run_pure, Result.andThen_ok, List.map_toArray, List.map_cons, List.map_nil, hs, hx, hrun]
  exact hK' _ _ (hK A' cap' w' g1 g2)
end Go.Proofs.Ytjmenbpalihnnaa.sl
end

section
namespace Go.Proofs.Ytjmenbpalihnnaa.draw
open Go.RowKit sl harn

theorem ow_keep {E : TypeId} {k : IntKind} {w w' : World} {lo hi n cap p : Nat} {A : Option Addr} {zs : List Int} (h : Ow E k w lo hi A n cap zs) (hk : Keep p w w') (hp : p < lo) : Ow E k w' lo hi A n cap zs :=
  h.same hk.size fun b h1 h2 => hk.block b (by have := h.hi_; omega) (by omega)
theorem cur_then {w w1 w2 : World} {p : Nat} {a : Option Addr} {len cap : Nat} (hc0 : Code w p a len) (hp : p < w.heap.size) (hk : Keep p w w1) (hc : Cur w1 p a len cap) (hb : Below w.heap.size w1 w2) : Keep p w w2 ∧ Cur w2 p a len cap := by
  have k2 : Keep p w w2 := ⟨hb.os.trans hk.os, hb.tape.trans hk.tape, hb.output.trans hk.output, Nat.le_trans hk.size hb.size, fun j hj hn => (hb.block j hj).trans (hk.block j hj hn)⟩
  obtain ⟨-, i, g, hi, hblk⟩ := hc
  exact ⟨k2, hc0.keep k2, i, g, hi, (hb.block p hp).trans hblk⟩

theorem below_push' {B : Nat} {w w' : World} {o : Obj} (hl : B ≤ w.heap.size) (hb : Below B (w.alloc o) w') : Below B w w' := ((Below.refl _ _).alloc hl o).trans hb
theorem cur_then2 {w w1 w2 : World} {B : Nat} {a : Option Addr} {len cap : Nat} (hc0 : Code w w.heap.size a len) (hp : w.heap.size < B) (hk : Keep w.heap.size w w1) (hc : Cur w1 w.heap.size a len cap) (hb : Below B w1 w2) : Keep w.heap.size w w2 ∧ Cur w2 w.heap.size a len cap := by
  have k2 : Keep w.heap.size w w2 := ⟨hb.os.trans hk.os, hb.tape.trans hk.tape, hb.output.trans hk.output, Nat.le_trans hk.size hb.size, fun j hj hn => (hb.block j (by omega)).trans (hk.block j hj hn)⟩
  obtain ⟨-, i, g, hi, hblk⟩ := hc
  exact ⟨k2, hc0.keep k2, i, g, hi, (hb.block _ hp).trans hblk⟩
/-- Some bytes, as many as asked for. -/
def SomePost (N : Int) (p : Nat) (a : Option Addr) (len cap : Nat) (w : World) (e : Ending) (w' : World) : Prop :=
  ∃ A n c zs, e = .returned (.slice A n c) ∧ (n : Int) ≤ N ∧ Ow 5 .u8 w' w.heap.size w'.heap.size A n c zs ∧ Keep p w w' ∧ Cur w' p a len cap
/-- Bytes that are being drawn. -/
def Drawing (w wr : World) (p : Nat) (a : Option Addr) (len cap : Nat) (k : Nat) (v : Value) : Prop :=
  ∃ A c zs, v = .slice A k c ∧ Ow 5 .u8 wr w.heap.size wr.heap.size A k c zs ∧ Keep p w wr ∧ Cur wr p a len cap
set_option maxRecDepth 100000 in
theorem bytes (N : Int) (h0 : 0 ≤ N) (hN : N ≤ 1000) (w : World) (p : Nat) (a : Option Addr) (len cap : Nat) (hc : Cur w p a len cap) :
    Calls Try.prog 73 #[.pointer (some ⟨p, 0, none⟩), .int .i64 N] w (SomePost N p a len cap w) := by
  obtain ⟨i0, hi0, hz0, hz1, hz2⟩ := info_parts u8Info
  have C0 := Lib.hid hc
  have P0 := Lib.hid hc.lt
  have HZ := Lib.hid (And.intro hi0 (And.intro hz0 (And.intro hz1 hz2)))
  clear hc hi0 hz0 hz1 hz2
  go_enter Try.func73, Try.ntmps73
  go_wp2
  go_loopw [5, 6] (fun v i wr => ∃ k : Nat, i = .int .i64 k ∧ (k : Int) ≤ N ∧ Drawing w wr p a len cap k v) (fun _ i _ => (N - intOf i).toNat)
  case atStart => exact ⟨0, rfl, by omega, _, _, [], rfl, (Ow.empty 5 .u8 w).up, (Keep.refl p w).alloc _, C0.out.alloc _⟩
  case round =>
    obtain ⟨k, rfl, hk, B, c, zs, rfl, ho, hkp, hcu⟩ := hrel
    have HO := Lib.hid ho
    have HK := Lib.hid hkp
    have HC := Lib.hid hcu
    clear ho hkp hcu
    by_cases hlt : (k : Int) < N
    · go_wp2_with (first
        | (go_at_call 106; refine (byte _ p a len cap HC.out).mono ?_; rintro e w1 ⟨x, rfl, hx0, hx1, hk1, hc1⟩; have HO1 := Lib.hid (ow_keep HO.out hk1 P0.out); have HX := Lib.hid (show (Lit.int .u8 x).wf = true from WalkArith.wf_u8 (by omega)); have HC1 := Lib.hid hc1; have HK1 := Lib.hid (HK.out.trans hk1); (have hs1 : w.heap.size ≤ w1.heap.size := HK1.out.size); clear hk1 hc1 HC HO HK)
        | (at_builtin; refine wpList_app _ rfl _ _ 22 rfl 5 i0 _ .u8 Try.underlying22 HZ.out.1 HZ.out.2.1 HZ.out.2.2.1 (by rw [HZ.out.2.2.2]; omega) rfl rfl rfl (HO1.out.alloc _) (Rd.one .u8 _ _ _ HX.out) (by omega) (by simp; omega) ?_; intro A1 cap1 w3 ho hb1; have HO3 := Lib.hid ho; have HB := Lib.hid (cur_then C0.out.1 P0.out HK1.out HC1.out (below_push' hs1 hb1)); clear ho hb1))
      go_roundw
      case rel => exact ⟨k + 1, by go_num, by omega, A1, cap1, zs ++ [x], rfl, HO3.out, HB.out.1, HB.out.2⟩
      case measure => simp [intOf]; omega
    · go_wp2
      go_ret
      exact ⟨_, _, _, zs, rfl, hk, HO.out, HK.out, HC.out⟩

end Go.Proofs.Ytjmenbpalihnnaa.draw
end

section
namespace Go.Proofs.Ytjmenbpalihnnaa.own
open Go.RowKit sl harn

section
variable {E : TypeId} {k : IntKind} {w : World} {lo hi n cap m : Nat} {A : Option Addr} {zs : List Int}
theorem ow_drewN (h : Ow E k w lo hi A n cap zs) : Ow E k (w.drewN m) lo hi A n cap zs := h.same (Nat.le_refl _) fun _ _ _ => rfl
theorem ow_drew (h : Ow E k w lo hi A n cap zs) : Ow E k w.drew lo hi A n cap zs := h.same (Nat.le_refl _) fun _ _ _ => rfl
theorem below_drewN {B m : Nat} {a w : World} (h : Below B a w) : Below B a (w.drewN m) := h.trans ⟨rfl, rfl, rfl, Nat.le_refl _, fun _ _ => rfl⟩
theorem below_drew {B : Nat} {a w : World} (h : Below B a w) : Below B a w.drew := h.trans ⟨rfl, rfl, rfl, Nat.le_refl _, fun _ _ => rfl⟩
theorem rd_drew (h : Rd k w lo hi A n cap zs) : Rd k w.drew lo hi A n cap zs := h.same (Nat.le_refl _) fun _ _ _ => rfl
theorem rd_drewN (h : Rd k w lo hi A n cap zs) : Rd k (w.drewN m) lo hi A n cap zs := h.same (Nat.le_refl _) fun _ _ _ => rfl
theorem own_some (h : Ow E k w lo hi A n cap zs) (hn : 0 < n) : ∃ b, A = some ⟨b, 0, none⟩ ∧ lo ≤ b := by
  rcases h.form with ⟨_, h0, _⟩ | ⟨g, cur, h, g1, _⟩
  · omega
  · exact ⟨g, h, g1⟩
/-- Behind a change of one cell of a row of the call's own. -/
theorem ow_set {b : Nat} (h : Ow E k w lo hi (some ⟨b, 0, none⟩) n cap zs) (i : Nat) (v : Int) (hv : (Lit.int k v).wf = true) : Ow E k (w.setCell ⟨b, i, none⟩ (.int k v)) lo hi (some ⟨b, 0, none⟩) n cap (zs.set i v) := by
  have hs := h.1.stored i (.int k v)
  have e : (zs.map (Value.int k)).set i (.int k v) = (zs.set i v).map (Value.int k) := by rw [List.map_set]
  refine ⟨?_, ?_, ?_, h.2.2.2⟩
  · rw [← e]; exact hs.1
  · intro z hz
    rcases List.mem_or_eq_of_mem_set hz with hz | hz
    · exact h.wf z hz
    · rw [hz]; exact hv
  · have := h.hi_; simpa [World.setCell] using this
theorem cell_of {b : Nat} (h : Ow E k w lo hi (some ⟨b, 0, none⟩) n cap zs) {j : Nat} (hj : j < n) : w.cell? ⟨b, j, none⟩ = some (.int k (zs.getD j 0)) := by
  obtain ⟨b', off, e, _, _, hc⟩ := h.rd.at_ hj
  injection e with e; injection e with e1 e2 e3
  subst e1 e2
  rwa [Nat.zero_add] at hc
end
theorem wf_at {zs : List Int} {n : Nat} (h : Wf .i64 zs) (hl : zs.length = n) {k : Nat} (hk : k < n) {x : Int} (hx : zs.getD k 0 = x) : (Lit.int .i64 x).wf = true := by
  rw [← hx]; exact h.getD (by omega)
theorem wf_in {x : Int} (h : (Lit.int .i64 x).wf = true) : -9223372036854775808 ≤ x ∧ x ≤ 9223372036854775807 := by have := bounds_i64 h; omega
end Go.Proofs.Ytjmenbpalihnnaa.own
end

section
namespace Go.Proofs.Ytjmenbpalihnnaa.rng
open Go.RowKit sl harn

theorem inRange_yes (n a b : Int) (h : a ≤ n ∧ n ≤ b) (w : World) :
    Calls Try.prog 71 #[.int .i64 n, .int .i64 a, .int .i64 b] w fun e w' => e = .returned (.bool true) ∧ w = w' := by
  obtain ⟨h1, h2⟩ := h
  go_enter Try.func71, Try.ntmps71
  go_wp2
  go_ret
  exact ⟨rfl, rfl⟩
theorem inRange_no (n a b : Int) (h : ¬ (a ≤ n ∧ n ≤ b)) (w : World) :
    Calls Try.prog 71 #[.int .i64 n, .int .i64 a, .int .i64 b] w fun e w' => e = .returned (.bool false) ∧ w = w' := by
  by_cases h1 : a ≤ n
  · have h2 : ¬ n ≤ b := by omega
    clear h
    go_enter Try.func71, Try.ntmps71
    go_wp2
    go_ret
    exact ⟨rfl, rfl⟩
  · clear h
    go_enter Try.func71, Try.ntmps71
    go_wp2
    go_ret
    exact ⟨rfl, rfl⟩
theorem l1In_yes (n a b : Int) (h : a ≤ n ∧ n ≤ b) (w : World) :
    Calls Try.prog 67 #[.int .i64 n, .int .i64 a, .int .i64 b] w fun e w' => e = .returned (.bool true) ∧ w = w' := by
  obtain ⟨h1, h2⟩ := h
  go_enter Try.func67, Try.ntmps67
  go_wp2
  go_ret
  exact ⟨rfl, rfl⟩
theorem l1In_no (n a b : Int) (h : ¬ (a ≤ n ∧ n ≤ b)) (w : World) :
    Calls Try.prog 67 #[.int .i64 n, .int .i64 a, .int .i64 b] w fun e w' => e = .returned (.bool false) ∧ w = w' := by
  by_cases h1 : a ≤ n
  · have h2 : ¬ n ≤ b := by omega
    clear h
    go_enter Try.func67, Try.ntmps67
    go_wp2
    go_ret
    exact ⟨rfl, rfl⟩
  · clear h
    go_enter Try.func67, Try.ntmps67
    go_wp2
    go_ret
    exact ⟨rfl, rfl⟩

theorem extremes (x y lo hi : Int) (b : Nat) (w : World) (hlo : lo = if y < x then y else x) (hhi : hi = if x < y then y else x) (hc : w.cell? ⟨b, 0, none⟩ = some (.int .i64 y)) :
    Calls Try.prog 108 #[.int .i64 x, .slice (some ⟨b, 0, none⟩) 1 1] w fun e w' => e = .returned (.tuple #[.int .i64 lo, .int .i64 hi]) ∧ w = w' := by
  rcases Int.lt_trichotomy y x with h | h | h
  · have h2 : ¬ x < y := by omega
    rw [if_pos h] at hlo; rw [if_neg h2] at hhi
    subst hlo hhi
    go_enter Try.func108, Try.ntmps108
    go_wp2
    go_loop [6, 7, 14] (fun l g i => (l = .int .i64 hi ∧ g = .int .i64 hi ∧ i = .int .i64 0) ∨ (l = .int .i64 lo ∧ g = .int .i64 hi ∧ i = .int .i64 1)) (fun _ _ i => (1 - intOf i).toNat)
    case atStart => exact Or.inl ⟨rfl, rfl, rfl⟩
    case round =>
      rcases hrel with ⟨rfl, rfl, rfl⟩ | ⟨rfl, rfl, rfl⟩
      · go_wp2
        go_round
        case rel => exact Or.inr ⟨rfl, rfl, rfl⟩
        case measure => simp [intOf]
      · go_wp2
        go_ret2
        exact ⟨rfl, rfl⟩
  · subst h
    have h2 : ¬ y < y := by omega
    rw [if_neg h2] at hlo hhi
    subst lo hi
    go_enter Try.func108, Try.ntmps108
    go_wp2
    go_loop [6, 7, 14] (fun l g i => (l = .int .i64 y ∧ g = .int .i64 y ∧ i = .int .i64 0) ∨ (l = .int .i64 y ∧ g = .int .i64 y ∧ i = .int .i64 1)) (fun _ _ i => (1 - intOf i).toNat)
    case atStart => exact Or.inl ⟨rfl, rfl, rfl⟩
    case round =>
      rcases hrel with ⟨rfl, rfl, rfl⟩ | ⟨rfl, rfl, rfl⟩
      · go_wp2
        go_round
        case rel => exact Or.inr ⟨rfl, rfl, rfl⟩
        case measure => simp [intOf]
      · go_wp2
        go_ret2
        exact ⟨rfl, rfl⟩
  · have h2 : ¬ y < x := by omega
    rw [if_neg h2] at hlo; rw [if_pos h] at hhi
    subst hlo hhi
    go_enter Try.func108, Try.ntmps108
    go_wp2
    go_loop [6, 7, 14] (fun l g i => (l = .int .i64 lo ∧ g = .int .i64 lo ∧ i = .int .i64 0) ∨ (l = .int .i64 lo ∧ g = .int .i64 hi ∧ i = .int .i64 1)) (fun _ _ i => (1 - intOf i).toNat)
    case atStart => exact Or.inl ⟨rfl, rfl, rfl⟩
    case round =>
      rcases hrel with ⟨rfl, rfl, rfl⟩ | ⟨rfl, rfl, rfl⟩
      · go_wp2
        go_round
        case rel => exact Or.inr ⟨rfl, rfl, rfl⟩
        case measure => simp [intOf]
      · go_wp2
        go_ret2
        exact ⟨rfl, rfl⟩
theorem implMin (x y m : Int) (hm : m = if y < x then y else x) (w : World) :
    Calls Try.prog 76 #[.int .i64 x, .int .i64 y] w fun e w' => e = .returned (.int .i64 m) ∧ Below w.heap.size w w' := by
  obtain ⟨g, hg⟩ : ∃ g, g = if x < y then y else x := ⟨_, rfl⟩
  have HG := Lib.hid hg
  have HM := Lib.hid hm
  clear hm hg
  go_enter Try.func76, Try.ntmps76
  go_wp2_with (first | (go_at_call 108; refine (extremes x y m g _ _ HM.out HG.out (by go_simp)).mono ?_; rintro e w' ⟨rfl, rfl⟩))
  go_ret
  exact ⟨rfl, (Below.refl _ _).alloc (Nat.le_refl _) _⟩
theorem implMax (x y m : Int) (hm : m = if x < y then y else x) (w : World) :
    Calls Try.prog 77 #[.int .i64 x, .int .i64 y] w fun e w' => e = .returned (.int .i64 m) ∧ Below w.heap.size w w' := by
  obtain ⟨g, hg⟩ : ∃ g, g = if y < x then y else x := ⟨_, rfl⟩
  have HG := Lib.hid hg
  have HM := Lib.hid hm
  clear hm hg
  go_enter Try.func77, Try.ntmps77
  go_wp2_with (first | (go_at_call 108; refine (extremes x y g m _ _ HG.out HM.out (by go_simp)).mono ?_; rintro e w' ⟨rfl, rfl⟩))
  go_ret
  exact ⟨rfl, (Below.refl _ _).alloc (Nat.le_refl _) _⟩
theorem specMin (x y m : Int) (hm : m = if y < x then y else x) (w : World) :
    Calls Try.prog 91 #[.int .i64 x, .int .i64 y] w fun e w' => e = .returned (.int .i64 m) ∧ w = w' := by
  by_cases h : y < x
  · rw [if_pos h] at hm; subst hm
    go_enter Try.func91, Try.ntmps91
    go_wp2
    go_ret
    exact ⟨rfl, rfl⟩
  · rw [if_neg h] at hm; subst hm
    go_enter Try.func91, Try.ntmps91
    go_wp2
    go_ret
    exact ⟨rfl, rfl⟩
theorem specMax (x y m : Int) (hm : m = if x < y then y else x) (w : World) :
    Calls Try.prog 79 #[.int .i64 x, .int .i64 y] w fun e w' => e = .returned (.int .i64 m) ∧ w = w' := by
  by_cases h : x < y
  · rw [if_pos h] at hm; subst hm
    go_enter Try.func79, Try.ntmps79
    go_wp2
    go_ret
    exact ⟨rfl, rfl⟩
  · rw [if_neg h] at hm; subst hm
    go_enter Try.func79, Try.ntmps79
    go_wp2
    go_ret
    exact ⟨rfl, rfl⟩
end Go.Proofs.Ytjmenbpalihnnaa.rng
end

section
namespace Go.Proofs.Ytjmenbpalihnnaa.bx
open Go.RowKit sl harn rng
set_option linter.unusedVariables false

theorem results_cell1 {fn : Func} {p : Tmp} {ty : TypeId} (h : fn.results = #[.cell p ty]) (tmps : Array Value) (P : Program) (w : World) :
    (results fn tmps).run P w = ((asAddr (tmps.getD p undef)).run P w).andThen fun a w₁ => (loadVar ty a).run P w₁ := by
  simp only [results, h]
  simp [Sem.run_bind, Result.andThen]
theorem results_cell_tmp1 {fn : Func} {p u : Tmp} {ty : TypeId} (h : fn.results = #[.cell p ty, .tmp u]) (tmps : Array Value) (P : Program) (w : World) :
    (results fn tmps).run P w =
      ((asAddr (tmps.getD p undef)).run P w).andThen fun a w₁ => ((loadVar ty a).run P w₁).andThen fun v w₂ => .ok (.tuple #[v, tmps.getD u undef]) w₂ := by
  simp only [results, h]
  simp [Sem.run_bind, Result.andThen]
theorem below_box (w : World) (o : Obj) : Below w.heap.size w (w.alloc o) := (Below.refl _ _).alloc (Nat.le_refl _) _
theorem below_box2 (w : World) (o o' : Obj) : Below w.heap.size w ((w.alloc o).alloc o') := ((Below.refl _ _).alloc (Nat.le_refl _) _).alloc (by simp) _
/-- A block that holds these cells. -/
def Bx (T : TypeId) (w : World) (b : Nat) (cs : Array Value) : Prop := w.heap[b]? = some (.cells cs T (0, 0))
section
variable {T : TypeId} {w w' : World} {b : Nat} {cs : Array Value}
theorem Bx.cell (h : Bx T w b cs) (i : Nat) : w.cell? ⟨b, i, none⟩ = cs[i]? := by unfold Bx at h; simp [World.cell?, h]
theorem Bx.lt (h : Bx T w b cs) : b < w.heap.size := lt_of_block h
theorem Bx.same (h : Bx T w b cs) (hb : w'.heap[b]? = w.heap[b]?) : Bx T w' b cs := by unfold Bx at h ⊢; rw [hb]; exact h
theorem Bx.below (h : Bx T w b cs) (hb : Below w.heap.size w w') : Bx T w' b cs := h.same (hb.block b h.lt)
theorem Bx.free (h : Bx T w b cs) (i : Nat) : w.frozen? ⟨b, i, none⟩ = false := by unfold Bx at h; simp [World.frozen?, h]
theorem Bx.tch {lo hi : Nat} (h : Bx T w b cs) (hb : Tch lo hi w w') (hd : b < lo ∨ hi ≤ b) : Bx T w' b cs := h.same (hb.block b h.lt hd)
theorem Bx.made (T : TypeId) (w : World) (cs : Array Value) : Bx T (w.alloc (.cells cs T)) w.heap.size cs := heap_alloc_new w _
theorem Bx.up {B : Nat} (h : Bx T w b cs) (hb : Below B w w') (hB : b < B) : Bx T w' b cs := h.same (hb.block b hB)
theorem Bx.set (h : Bx T w b cs) (i : Nat) (v : Value) : Bx T (w.setCell ⟨b, i, none⟩ v) b (cs.setIfInBounds i v) := by
  unfold Bx at h ⊢
  simp [World.setCell, Array.getElem?_modify, h]
theorem Bx.other {c : Nat} (h : Bx T w b cs) (hc : b ≠ c) (i : Nat) (v : Value) : Bx T (w.setCell ⟨c, i, none⟩ v) b cs := h.same (Below.heap_setCell _ _ _ _ hc)
end
/-- What a function of a frame hands back that is a bool, or an integer. -/
def BPost (b : Bool) (w : World) (e : Ending) (w' : World) : Prop := e = .returned (.bool b) ∧ Below w.heap.size w w'
def NPost (n : Int) (w : World) (e : Ending) (w' : World) : Prop := e = .returned (.int .i64 n) ∧ Below w.heap.size w w'
theorem b_parts {a b : Bool} (ht : a = b) {w w' : World} {e : Ending} (h : BPost a w e w') : e = .returned (.bool b) ∧ Below w.heap.size w w' := by subst ht; exact h
theorem n_parts {a b : Int} (ht : a = b) {w w' : World} {e : Ending} (h : NPost a w e w') : e = .returned (.int .i64 b) ∧ Below w.heap.size w w' := by subst ht; exact h

theorem inR (n a b : Int) (v : Bool) (w : World) (h : decide (a ≤ n ∧ n ≤ b) = v) :
    Calls Try.prog 71 #[.int .i64 n, .int .i64 a, .int .i64 b] w fun e w' => e = .returned (.bool v) ∧ w = w' := by
  cases v with
  | true => exact inRange_yes n a b (of_decide_eq_true h) w
  | false => exact inRange_no n a b (of_decide_eq_false h) w
theorem l1R (n a b : Int) (v : Bool) (w : World) (h : decide (a ≤ n ∧ n ≤ b) = v) :
    Calls Try.prog 67 #[.int .i64 n, .int .i64 a, .int .i64 b] w fun e w' => e = .returned (.bool v) ∧ w = w' := by
  cases v with
  | true => exact l1In_yes n a b (of_decide_eq_true h) w
  | false => exact l1In_no n a b (of_decide_eq_false h) w
theorem ow_none (E : TypeId) (k : IntKind) (w : World) (lo hi : Nat) (h : hi ≤ w.heap.size) : Ow E k w lo hi none 0 0 [] :=
  ⟨⟨by simp, .inl ⟨rfl, rfl⟩⟩, Wf.nil k, h, fun _ _ e => by cases e⟩

/-- The worlds behind w in which what stood there stands. -/
structure Af (base : World) where
  w : World
  below : Below base.heap.size base w
instance (w : World) : Nonempty (Af w) := ⟨⟨w, Below.refl _ _⟩⟩
theorem Af.next {w v : World} {n : Af w} (h : Below n.w.heap.size n.w v) : ∃ m : Af w, v = m.w :=
  ⟨⟨v, n.below.trans (h.mono n.below.size)⟩, rfl⟩
/-- A region that draws its order, whose operations only read and whose callees leave what was there: walked once, in the text's order. -/
theorem region_after {P : Program} {id : Nat} {Q : Exit → Act → World → Prop} {a : Act} {w : World} {l : List Oper} (hm : P.follows .mixedOrders = true) (hB : Region.lexB .any l.toArray = true)
    (h : wpQuiet P l.toArray (fun w' => ∃ n : Af w, w' = n.w) (fun a' => ∀ w', (∃ n : Af w, w' = n.w) → Q .normal a' w') l a) : (Code.region id l.toArray true).wp P Q a w :=
  wp_region_quiet (C := fun w' => ∃ n : Af w, w' = n.w) hm hB ⟨⟨_, own.below_drew (Below.refl _ _)⟩, rfl⟩ h
theorem Af.call {P : Program} {f : FuncId} {args : Array Value} {w : World} {n : Af w} {v : Value}
    (h : Calls P f args n.w fun e w' => e = .returned v ∧ Below n.w.heap.size n.w w') : Calls P f args n.w fun e w' => e = .returned v ∧ ∃ m : Af w, w' = m.w :=
  h.mono fun _ _ ⟨he, hb⟩ => ⟨he, Af.next hb⟩
theorem Af.rd {k : IntKind} {w : World} {lo hi n cap : Nat} {A : Option Addr} {zs : List Int} (h : Rd k w lo hi A n cap zs) (m : Af w) : Rd k m.w lo hi A n cap zs := h.below m.below
theorem Af.cells {T : TypeId} {w : World} {b : Nat} {cs : Array Value} (h : Bx T w b cs) (m : Af w) : Bx T m.w b cs := h.below m.below
theorem Af.on {w v : World} (h : Below w.heap.size w v) (m : Af v) : Below w.heap.size w m.w := h.trans (m.below.mono h.size)
end Go.Proofs.Ytjmenbpalihnnaa.bx
end
