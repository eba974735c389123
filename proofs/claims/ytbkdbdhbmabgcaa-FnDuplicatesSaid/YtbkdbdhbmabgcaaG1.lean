/- Merged texts of this seat. Kit: What a walk is told of a slice of integers that came in, and small closings. Condition: none. | Sl: Slices of integers in memory: what a slice that is read holds (Rd), what a slice of the call's own holds (Ow), and how both are kept from world to world. Condition: none. | Harn: The harness functions of the exact laws over slices of numbers: the copy, the comparison, the marks. Condition: lengths up to 2^26. | App: An append onto a slice of numbers of the call's own, whatever slice of numbers is appended (nil and empty ones too). Condition: together at most 2^30 elements of at most 8 bytes. | Cut: Cuts of a slice as runs, and what is read through them. Condition: none. | Draw: The cursor of a draw: what its functions return lies in the stated ranges, and of what was there only the cursor's own block is written. Condition: the cursor reads a slice of bytes that lies outside its own block. | Draw2: What the draws of numbers and strings return, in ranges. Condition: the bytes that are drawn from are a slice that came in. | DrawB: Drawn slices of bytes, and an append between two draws. Condition: the bytes that are drawn from are a slice that came in. | Bitm: Bit strings as lists of numbers: bits of a number, the number of bits, and that each undoes the other. Condition: none (no program). | Rng: Ranges, least and greatest: the program's and the specification's functions. Condition: none. | Bits1: Bit strings, program and specification: IsBitString, Weight, Parity, HammingDistance, BitsToInt. Condition: none. | Crcm: The check of bytes as numbers, no program: the register's steps are linear, and a frame in which one or two bits were inverted has another check. Condition: frames of at most eleven bytes for the last. | Crc1: The check of bytes: shiftCrc and Crc16, program and specification. Condition: none. | Shelf: The library contracts that the proofs use, laid at this program by the kit's own command. Conditions: those that each theorem names. | Eq: EqualBytes and EqualInts, program and specification. Condition: none. | Enc: Varints as lists of numbers: the encoding, the decoding, and that each undoes the other. Condition: none (no program). | Uv: The functions of varints, program and specification: AppendUvarint. Condition: lengths up to 2^27. -/
import Derived.Test.YtbkdbdhbmabgcaaRows
import Derived.WalkKit
import Derived.Below
import Derived.OwnWalk
import Derived.Laws.OwnMore
import Derived.Maps.AppendAt
import Derived.Deep.AppendLies
import Derived.Deep.Draws
import Derived.RegionTactic
import Derived.Laws.MakeOwn
import Derived.Laws.Entries
import Derived.OpenShut
import Derived.ProofKit
import Derived.LoopTactic
import Derived.Deep.QuietTactic
import Derived.BigQuiet
import Derived.Outline
import Derived.Lib.Hide
import Derived.BigFrame
import Derived.OneCell
import Derived.Shelf.Bytes.SlSearch0
import Derived.Shelf.Bytes.SlEqualAll
import Derived.Shelf.Bytes.Small
import Derived.Test.YtbkdbdhbmabgcaaProg
import Derived.Laws.Bits128
section
namespace Go.Proofs.Ytbkdbdhbmabgcaa.kit

/-- A slice of integers: nil, or a row of 'cap' cells that hold the numbers 'zs', each fitting its kind. -/
def IsRow (k : IntKind) (w : World) (a : Option Addr) (len cap : Nat) (zs : List Int) : Prop :=
  (a = none ∧ len = 0 ∧ cap = 0 ∧ zs = []) ∨
  ∃ x, a = some x ∧ len ≤ cap ∧ cap ≤ maxLen ∧ zs.length = cap ∧ (∀ i, i < zs.length → w.cell? (x.add i) = some (.int k (zs.getD i 0))) ∧ ∀ n ∈ zs, (Lit.int k n).wf = true
end Go.Proofs.Ytbkdbdhbmabgcaa.kit
end

section
namespace Go.Proofs.Ytbkdbdhbmabgcaa.sl
open Go.RowKit

def Wf (k : IntKind) (zs : List Int) : Prop := ∀ z ∈ zs, (Lit.int k z).wf = true
theorem Wf.nil (k : IntKind) : Wf k [] := fun _ h => by cases h
theorem Wf.append {k : IntKind} {a b : List Int} (h : Wf k a) (g : Wf k b) : Wf k (a ++ b) := fun z hz => by
  rcases List.mem_append.1 hz with hz | hz
  · exact h z hz
  · exact g z hz
theorem Wf.one {k : IntKind} {x : Int} (h : (Lit.int k x).wf = true) : Wf k [x] := fun z hz => by
  have : z = x := by simpa using hz
  subst this; exact h
theorem Wf.left {k : IntKind} {a b : List Int} (h : Wf k (a ++ b)) : Wf k a := fun z hz => h z (List.mem_append_left _ hz)
theorem Wf.right {k : IntKind} {a b : List Int} (h : Wf k (a ++ b)) : Wf k b := fun z hz => h z (List.mem_append_right _ hz)
theorem Wf.drop {k : IntKind} {a : List Int} (h : Wf k a) (i : Nat) : Wf k (a.drop i) := fun z hz => h z (List.mem_of_mem_drop hz)
theorem Wf.take {k : IntKind} {a : List Int} (h : Wf k a) (i : Nat) : Wf k (a.take i) := fun z hz => h z (List.mem_of_mem_take hz)
theorem Wf.getD {k : IntKind} {a : List Int} (h : Wf k a) {i : Nat} (hi : i < a.length) : (Lit.int k (a.getD i 0)).wf = true := by
  rw [List.getD_eq_getElem?_getD, List.getElem?_eq_getElem hi]; exact h _ (List.getElem_mem hi)
theorem Wf.u8 {a : List Int} (h : Wf .u8 a) : ∀ z ∈ a, 0 ≤ z ∧ z ≤ 255 := fun z hz => by
  have := bounds_u8 (h z hz); omega
theorem Wf.of_u8 {a : List Int} (h : ∀ z ∈ a, 0 ≤ z ∧ z ≤ 255) : Wf .u8 a := fun z hz => WalkArith.wf_u8 (by have := h z hz; omega)
theorem Wf.i64 {a : List Int} (h : Wf .i64 a) : ∀ z ∈ a, -9223372036854775808 ≤ z ∧ z ≤ 9223372036854775807 := fun z hz => by
  have := bounds_i64 (h z hz); omega
theorem Wf.of_i64 {a : List Int} (h : ∀ z ∈ a, -9223372036854775808 ≤ z ∧ z ≤ 9223372036854775807) : Wf .i64 a := fun z hz => WalkArith.wf_i64 (by have := h z hz; omega)

/-- Only blocks from lo to below hi of what was there may have been written. -/
structure Tch (lo hi : Nat) (w w' : World) : Prop where
  os : w'.os = w.os
  tape : w'.tape = w.tape
  output : w'.output = w.output
  size : w.heap.size ≤ w'.heap.size
  block : ∀ k, k < w.heap.size → (k < lo ∨ hi ≤ k) → w'.heap[k]? = w.heap[k]?
theorem Tch.refl (lo hi : Nat) (w : World) : Tch lo hi w w := ⟨rfl, rfl, rfl, Nat.le_refl _, fun _ _ _ => rfl⟩
theorem Tch.below {lo hi B : Nat} {w w' : World} (h : Tch lo hi w w') (hB : B ≤ lo) (hs : B ≤ w.heap.size) : Below B w w' :=
  ⟨h.os, h.tape, h.output, h.size, fun k hk => h.block k (by omega) (Or.inl (by omega))⟩

/-- A slice of numbers that is read: its address is looked at only where there is an element. -/
def Rd (k : IntKind) (w : World) (lo hi : Nat) (A : Option Addr) (n cap : Nat) (zs : List Int) : Prop :=
  zs.length = n ∧ n ≤ cap ∧ cap ≤ maxLen ∧ hi ≤ w.heap.size ∧ Wf k zs ∧ (0 < n → ∃ b off, A = some ⟨b, off, none⟩ ∧ lo ≤ b ∧ b < hi ∧ ∀ i, i < n → w.cell? ⟨b, off + i, none⟩ = some (.int k (zs.getD i 0)))
/-- A slice of numbers that the call itself has made. -/
def Ow (E : TypeId) (k : IntKind) (w : World) (lo hi : Nat) (A : Option Addr) (n cap : Nat) (zs : List Int) : Prop :=
  w.ownsRow lo E 1 (.slice A n cap) n (zs.map (Value.int k)) ∧ Wf k zs ∧ hi ≤ w.heap.size ∧ ∀ g o, A = some ⟨g, o, none⟩ → g < hi

section
variable {k : IntKind} {w w' : World} {lo hi n cap : Nat} {A : Option Addr} {zs : List Int} {E : TypeId}

theorem Rd.len (h : Rd k w lo hi A n cap zs) : zs.length = n := h.1
theorem Rd.cap_ (h : Rd k w lo hi A n cap zs) : n ≤ cap ∧ cap ≤ 9223372036854775807 := ⟨h.2.1, by have := h.2.2.1; unfold maxLen at this; omega⟩
theorem Rd.hi_ (h : Rd k w lo hi A n cap zs) : hi ≤ w.heap.size := h.2.2.2.1
theorem Rd.wf (h : Rd k w lo hi A n cap zs) : Wf k zs := h.2.2.2.2.1
theorem Rd.at_ (h : Rd k w lo hi A n cap zs) {i : Nat} (hi' : i < n) : ∃ b off, A = some ⟨b, off, none⟩ ∧ lo ≤ b ∧ b < hi ∧ w.cell? ⟨b, off + i, none⟩ = some (.int k (zs.getD i 0)) := by
  obtain ⟨b, off, e, h1, h2, h3⟩ := h.2.2.2.2.2 (by omega)
  exact ⟨b, off, e, h1, h2, h3 i hi'⟩
theorem Rd.same (h : Rd k w lo hi A n cap zs) (hs : w.heap.size ≤ w'.heap.size) (hb : ∀ b, lo ≤ b → b < hi → w'.heap[b]? = w.heap[b]?) : Rd k w' lo hi A n cap zs := by
  obtain ⟨h1, h2, h3, h4, h5, h6⟩ := h
  refine ⟨h1, h2, h3, by omega, h5, fun hn => ?_⟩
  obtain ⟨b, off, e, g1, g2, g3⟩ := h6 hn
  exact ⟨b, off, e, g1, g2, fun i hi => (World.cell?_of_block (w := w) (hb b g1 g2)).trans (g3 i hi)⟩
theorem Rd.below (h : Rd k w lo hi A n cap zs) (hb : Below w.heap.size w w') : Rd k w' lo hi A n cap zs :=
  h.same hb.size fun b _ hlt => hb.block b (by have := h.hi_; omega)
theorem Rd.tch (h : Rd k w lo hi A n cap zs) {l r : Nat} (hb : Tch l r w w') (hd : hi ≤ l ∨ r ≤ lo) : Rd k w' lo hi A n cap zs :=
  h.same hb.size fun b h1 h2 => hb.block b (by have := h.hi_; omega) (by omega)
theorem Rd.wide (h : Rd k w lo hi A n cap zs) : Rd k w 0 w.heap.size A n cap zs := by
  obtain ⟨h1, h2, h3, h4, h5, h6⟩ := h
  refine ⟨h1, h2, h3, Nat.le_refl _, h5, fun hn => ?_⟩
  obtain ⟨b, off, e, g1, g2, g3⟩ := h6 hn
  exact ⟨b, off, e, by omega, by omega, g3⟩
theorem Rd.nil (k : IntKind) (w : World) (A : Option Addr) (cap lo hi : Nat) (hc : cap ≤ maxLen) (hh : hi ≤ w.heap.size) : Rd k w lo hi A 0 cap [] :=
  ⟨rfl, by omega, hc, hh, Wf.nil k, fun h => absurd h (by omega)⟩
/-- A cut of a slice that is read. -/
theorem Rd.cut (h : Rd k w lo hi A n cap zs) (i j c : Nat) (A' : Option Addr) (hA : i < j → A' = A.map (·.add i)) (hij : i ≤ j) (hj : j ≤ n) (hc : j - i ≤ c) (hcm : c ≤ maxLen) :
    Rd k w lo hi A' (j - i) c ((zs.drop i).take (j - i)) := by
  obtain ⟨h1, h2, h3, h4, h5, h6⟩ := h
  refine ⟨by simp; omega, hc, hcm, h4, (h5.drop i).take _, fun hn => ?_⟩
  obtain ⟨b, off, rfl, g1, g2, g3⟩ := h6 (by omega)
  refine ⟨b, off + i, ?_, g1, g2, fun m hm => ?_⟩
  · rw [hA (by omega)]; simp [Addr.add]
  · rw [Nat.add_assoc, g3 (i + m) (by omega)]
    congr 2
    rw [List.getD_eq_getElem?_getD, List.getD_eq_getElem?_getD, List.getElem?_take, if_pos hm, List.getElem?_drop]

theorem Ow.len (h : Ow E k w lo hi A n cap zs) : zs.length = n := by have := h.1.1; simpa using this
theorem Ow.wf (h : Ow E k w lo hi A n cap zs) : Wf k zs := h.2.1
theorem Ow.hi_ (h : Ow E k w lo hi A n cap zs) : hi ≤ w.heap.size := h.2.2.1
theorem Ow.form (h : Ow E k w lo hi A n cap zs) : (A = none ∧ n = 0 ∧ cap = 0) ∨ ∃ g cur, A = some ⟨g, 0, none⟩ ∧ lo ≤ g ∧ g < hi ∧ w.heap[g]? = some (.cells cur E (0, 0)) ∧ n ≤ cap ∧ cap ≤ maxLen ∧ cur.size = cap ∧ cur.toList.take n = zs.map (Value.int k) := by
  rcases h.1.2 with ⟨e, h0⟩ | ⟨g, c, cur, e, h1, h2, h3, h4, h5, h6⟩
  · injection e with e1 e2 e3
    exact Or.inl ⟨e1, e2, e3⟩
  · injection e with e1 e2 e3
    subst e3
    exact Or.inr ⟨g, cur, e1, h1, h.2.2.2 g 0 e1, h2, h3, h4, by simpa using h5, by simpa using h6⟩
theorem Ow.rd (h : Ow E k w lo hi A n cap zs) : Rd k w lo hi A n cap zs := by
  have hl := h.len
  rcases h.form with ⟨rfl, rfl, rfl⟩ | ⟨g, cur, rfl, h1, h2, h3, h4, h5, h6, h7⟩
  · exact ⟨hl, Nat.le_refl _, by unfold maxLen; omega, h.hi_, h.wf, fun h => absurd h (by omega)⟩
  · refine ⟨hl, h4, h5, h.hi_, h.wf, fun _ => ⟨g, 0, rfl, h1, h2, fun i hi' => ?_⟩⟩
    have hc := h.1.cellAt i (by simpa using hi')
    rw [Nat.zero_add, hc]
    rw [List.getElem?_map, List.getD_eq_getElem?_getD, List.getElem?_eq_getElem (show i < zs.length by omega)]
    rfl
theorem Ow.free (h : Ow E k w lo hi A n cap zs) {b off : Nat} (e : A = some ⟨b, off, none⟩) (i : Nat) : w.frozen? ⟨b, i, none⟩ = false := by
  rcases h.form with ⟨rfl, _, _⟩ | ⟨g, cur, rfl, h1, h2, h3, h4⟩
  · cases e
  · injection e with e; injection e with e _; subst e
    simp [World.frozen?, h3]
theorem Ow.same (h : Ow E k w lo hi A n cap zs) (hs : w.heap.size ≤ w'.heap.size) (hb : ∀ b, lo ≤ b → b < hi → w'.heap[b]? = w.heap[b]?) : Ow E k w' lo hi A n cap zs := by
  obtain ⟨⟨h1, h2⟩, h3, h4, h5⟩ := h
  refine ⟨⟨h1, ?_⟩, h3, by omega, h5⟩
  rcases h2 with h2 | ⟨g, c, cur, e, g1, g2, g3⟩
  · exact Or.inl h2
  · injection e with e1 e2 e3
    refine Or.inr ⟨g, c, cur, by rw [e1, e3], g1, ?_, g3⟩
    rw [hb g g1 (h5 g 0 e1)]; exact g2
theorem Ow.below (h : Ow E k w lo hi A n cap zs) (hb : Below w.heap.size w w') : Ow E k w' lo hi A n cap zs :=
  h.same hb.size fun b _ hlt => hb.block b (by have := h.hi_; omega)
theorem Ow.tch (h : Ow E k w lo hi A n cap zs) {l r : Nat} (hb : Tch l r w w') (hd : hi ≤ l ∨ r ≤ lo) : Ow E k w' lo hi A n cap zs :=
  h.same hb.size fun b h1 h2 => hb.block b (by have := h.hi_; omega) (by omega)
theorem Ow.of_own {v : Value} (h : w.ownsRow lo E 1 v n (zs.map (Value.int k))) (hw : Wf k zs) : ∃ A cap, v = .slice A n cap ∧ Ow E k w lo w.heap.size A n cap zs := by
  rcases h.2 with ⟨rfl, rfl⟩ | ⟨g, c, cur, rfl, h1, h2, h3⟩
  · exact ⟨none, 0, rfl, h, hw, Nat.le_refl _, fun _ _ e => by cases e⟩
  · exact ⟨_, c, rfl, h, hw, Nat.le_refl _, fun b o e => by injection e with e; injection e with e _; subst e; exact lt_of_block h2⟩
/-- A new row that is written out. -/
theorem Ow.lit (w : World) (cs : Array Value) (zs : List Int) (hcs : cs.toList = zs.map (Value.int k)) (hw : Wf k zs) (hl : zs.length ≤ maxLen) (hn : cs.size = n) :
    Ow E k (w.alloc (.cells cs E)) w.heap.size (w.alloc (.cells cs E)).heap.size (some ⟨w.heap.size, 0, none⟩) n n zs := by
  have hz : cs.size = zs.length := by have := congrArg List.length hcs; simpa using this
  have := World.ownsRow_lit (e := E) (size := 1) (base := w.heap.size) w cs n (Nat.le_refl _) (by omega) (by omega)
  rw [hcs] at this
  exact ⟨this, hw, Nat.le_refl _, fun g o e => by injection e with e; injection e with e _; subst e; simp⟩
end

/-- A slice that came in. -/
theorem Rd.of_row {k : IntKind} {w : World} {A : Option Addr} {len cap : Nat} {zs : List Int} (h : kit.IsRow k w A len cap zs) : ∃ ys, Rd k w 0 w.heap.size A len cap ys := by
  rcases h with ⟨rfl, rfl, rfl, rfl⟩ | ⟨x, rfl, hl, hm, hz, hc, hw⟩
  · exact ⟨[], Rd.nil k w none 0 0 w.heap.size (by unfold maxLen; omega) (Nat.le_refl _)⟩
  · refine ⟨zs.take len, by simp; omega, hl, hm, Nat.le_refl _, Wf.take hw len, fun hn => ?_⟩
    obtain ⟨b, off, rfl, hcell⟩ := ints_at hc (by omega)
    have e0 := hcell 0 (by omega)
    have hb : b < w.heap.size := by
      rcases Nat.lt_or_ge b w.heap.size with h1 | h1
      · exact h1
      · exfalso
        have : w.heap[b]? = none := Array.getElem?_eq_none h1
        simp [World.cell?, this] at e0
    refine ⟨b, off, rfl, by omega, hb, fun i hi => ?_⟩
    rw [hcell i (by omega), List.getD_eq_getElem?_getD, List.getD_eq_getElem?_getD, List.getElem?_take, if_pos hi]

/-- What a function hands back that makes a slice of numbers. -/
def SlPost (E : TypeId) (k : IntKind) (w : World) (zs : List Int) (e : Ending) (w' : World) : Prop :=
  ∃ A n cap, e = .returned (.slice A n cap) ∧ Ow E k w' w.heap.size w'.heap.size A n cap zs ∧ Below w.heap.size w w'

/-- The words of the guide for a source of an append. -/
def Reads (w : World) (B size : Nat) (A : Option Addr) (n : Nat) (xs : List Value) : Prop :=
  xs.length = n * size ∧ (0 < n → ∃ ad, A = some ad ∧ ad.block < B ∧ ∀ j u, xs[j]? = some u → w.cell? (ad.add j) = some u)
theorem Rd.reads {k : IntKind} {w : World} {lo hi n cap : Nat} {A : Option Addr} {zs : List Int} (h : Rd k w lo hi A n cap zs) : Reads w hi 1 A n (zs.map (Value.int k)) := by
  refine ⟨by simpa using h.len, fun hn => ?_⟩
  obtain ⟨b, off, e, h1, h2, h3⟩ := h.2.2.2.2.2 hn
  refine ⟨_, e, h2, fun j u hu => ?_⟩
  have hj : j < n := by
    have := (List.getElem?_eq_some_iff.1 hu).1
    simp at this; have := h.len; omega
  have e2 : (⟨b, off, none⟩ : Addr).add j = ⟨b, off + j, none⟩ := by
    unfold Addr.add; split <;> simp_all
  rw [e2, h3 j hj]
  rw [List.getElem?_map, List.getElem?_eq_getElem (show j < zs.length by rw [h.len]; exact hj)] at hu
  rw [List.getD_eq_getElem?_getD, List.getElem?_eq_getElem (show j < zs.length by rw [h.len]; exact hj)]
  simpa using hu
theorem one_cells (k : IntKind) (zs : List Int) : ∀ u ∈ zs.map (Value.int k), u.oneCell' = true := by
  intro u hu
  obtain ⟨z, _, rfl⟩ := List.mem_map.1 hu
  rfl
end Go.Proofs.Ytbkdbdhbmabgcaa.sl
end

section
namespace Go.Proofs.Ytbkdbdhbmabgcaa.harn
open Go.RowKit sl

theorem run_make1 {P : Program} (t e : TypeId) (i : TypeInfo) (z : Value) (ht : P.underlying t = some (.slice e)) (hi : P.info? e = some i) (hz : i.zero = some z) (hs : i.size = 1)
    (n : Nat) (hb8 : i.bytes ≤ 8) (hn : n ≤ 67108864) (w : World) :
    (Instr.makeSlice t (.int .i64 (n : Int)) (.int .i64 (n : Int))).run P w = .ok (.slice (some ⟨w.heap.size, 0, none⟩) n n) (w.alloc (.cells (madeCells z.cells n) e)) := by
  have hb : (i.bytes : Int) * (n : Int) ≤ 281474976710656 := by
    have h : ((i.bytes * n : Nat) : Int) ≤ 281474976710656 := by
      have h1 := Nat.mul_le_mul hb8 hn
      omega
    rwa [Int.natCast_mul] at h
  have hr := run_make (P := P) w t e i z ht hi hz .i64 .i64 n n (by omega) (by omega) hb (by omega)
  simp only [Int.toNat_natCast] at hr
  rw [hs, Nat.mul_one] at hr
  exact hr

theorem u8Info : (Try.prog.info? 5).map (fun i => (i.zero, i.size, i.bytes)) = some (some (.int .u8 0), 1, 1) := by kernel_rfl
theorem intInfo : (Try.prog.info? 3).map (fun i => (i.zero, i.size, i.bytes)) = some (some (.int .i64 0), 1, 8) := by kernel_rfl

theorem madeLt (z : Array Value) (n k : Nat) (h : k < n) : ∃ v, (madeCells z n)[k]? = some v := ⟨_, Array.getElem?_eq_getElem (by rw [size_madeCells]; exact h)⟩
/-- A copy that has come to k. -/
def Part (kd : IntKind) (E : TypeId) (w wr : World) (n k : Nat) (zs : List Int) : Prop :=
  ∃ cs, wr.heap[w.heap.size]? = some (.cells cs E (0, 0)) ∧ cs.size = n ∧ (∀ j, j < k → cs[j]? = some (.int kd (zs.getD j 0))) ∧ Below w.heap.size w wr
theorem Part.start (kd : IntKind) (E : TypeId) (w : World) (n : Nat) (zs : List Int) (z : Array Value) : Part kd E w (w.alloc (.cells (madeCells z n) E)) n 0 zs :=
  ⟨_, heap_alloc_new w _, size_madeCells z n, fun j h => absurd h (by omega), (Below.refl _ _).alloc (Nat.le_refl _) _⟩
theorem Part.cell {kd : IntKind} {E : TypeId} {w wr : World} {n k : Nat} {zs : List Int} (h : Part kd E w wr n k zs) (hk : k < n) : ∃ v, wr.cell? ⟨w.heap.size, k, none⟩ = some v := by
  obtain ⟨cs, h1, h2, _⟩ := h
  exact ⟨cs[k]'(by omega), by simp [World.cell?, h1]⟩
theorem Part.free {kd : IntKind} {E : TypeId} {w wr : World} {n k : Nat} {zs : List Int} (h : Part kd E w wr n k zs) (i : Nat) : wr.frozen? ⟨w.heap.size, i, none⟩ = false := by
  obtain ⟨cs, h1, _⟩ := h
  simp [World.frozen?, h1]
theorem Part.step {kd : IntKind} {E : TypeId} {w wr : World} {n k : Nat} {zs : List Int} (h : Part kd E w wr n k zs) (hk : k < n) : Part kd E w (wr.setCell ⟨w.heap.size, k, none⟩ (.int kd (zs.getD k 0))) n (k + 1) zs := by
  obtain ⟨cs, h1, h2, h3, h4⟩ := h
  refine ⟨cs.setIfInBounds k (.int kd (zs.getD k 0)), ?_, by simpa using h2, fun j hj => ?_, h4.setCell (Nat.le_refl _) _⟩
  · exact heap_setCell_same wr w.heap.size k cs E _ h1
  · rcases Nat.lt_or_ge j k with hlt | hge
    · rw [Array.getElem?_setIfInBounds_ne (by omega)]; exact h3 j hlt
    · have : j = k := by omega
      subst this
      rw [Array.getElem?_setIfInBounds_self_of_lt (by omega)]
theorem Part.done {kd : IntKind} {E : TypeId} {w wr : World} {n : Nat} {zs : List Int} (h : Part kd E w wr n n zs) (hl : zs.length = n) (hw : Wf kd zs) (hm : n ≤ maxLen) :
    SlPost E kd w zs (.returned (.slice (some ⟨w.heap.size, 0, none⟩) n n)) wr := by
  obtain ⟨cs, h1, h2, h3, h4⟩ := h
  have e : cs.toList = zs.map (Value.int kd) := by
    apply List.ext_getElem?
    intro i
    rw [Array.getElem?_toList, List.getElem?_map]
    rcases Nat.lt_or_ge i n with hi | hi
    · rw [h3 i hi, List.getElem?_eq_getElem (show i < zs.length by omega), List.getD_eq_getElem?_getD, List.getElem?_eq_getElem (show i < zs.length by omega)]
      rfl
    · rw [Array.getElem?_eq_none (by omega), List.getElem?_eq_none (by omega)]; rfl
  refine ⟨_, _, _, rfl, ⟨⟨by simpa using hl, Or.inr ⟨_, n, cs, rfl, Nat.le_refl _, h1, Nat.le_refl _, hm, by simpa using h2, ?_⟩⟩, hw, Nat.le_refl _, ?_⟩, h4⟩
  · rw [Nat.mul_one, ← e, List.take_of_length_le (by simp; omega)]
  · intro g o e; injection e with e; injection e with e _; subst e; exact lt_of_block h1
theorem rd_part {kd : IntKind} {E : TypeId} {w wr : World} {n k : Nat} {zs : List Int} {lo hi cap : Nat} {A : Option Addr} (r : Rd kd w lo hi A n cap zs) (h : Part kd E w wr n k zs) : Rd kd wr lo hi A n cap zs := by
  obtain ⟨cs, _, _, _, h4⟩ := h
  exact r.below h4

theorem toByteS (zs : List Int) (lo hi : Nat) (A : Option Addr) (n cap : Nat) (w : World) (h : Rd .u8 w lo hi A n cap zs) (hn : n ≤ 67108864) :
    Calls Try.prog 82 #[.slice A n cap] w (SlPost 5 .u8 w zs) := by
  obtain ⟨i0, hi0, hz0, hz1, hz2⟩ := info_parts u8Info
  have hmk := fun W => run_make1 (P := Try.prog) 22 5 i0 _ Try.underlying22 hi0 hz0 hz1 n (by omega) hn W
  have HR := Lib.hid h
  clear h hz2 hz1 hz0 hi0
  go_enter Try.func82, Try.ntmps82
  go_wp2
  go_loopw [4] (fun i wr => ∃ k : Nat, i = .int .i64 k ∧ k ≤ n ∧ Part .u8 5 w wr n k zs) (fun i _ => n - (intOf i).toNat)
  case atStart => exact ⟨0, rfl, by omega, Part.start _ _ _ _ _ _⟩
  case round =>
    obtain ⟨k, rfl, hk, hp⟩ := hrel
    have HP := Lib.hid hp
    clear hp
    by_cases hlt : k < n
    · obtain ⟨b, off, rfl, h1, h2, hc⟩ := (rd_part HR.out HP.out).at_ hlt
      obtain ⟨v, hv⟩ := HP.out.cell hlt
      have hf := HP.out.free k
      have hlt2 : (k : Int) < n := by omega
      go_wp2
      go_roundw
      case rel => exact ⟨k + 1, by go_num, by omega, HP.out.step hlt⟩
      case measure => simp [intOf]; omega
    · have hlt2 : ¬ (k : Int) < n := by omega
      go_wp2
      go_ret
      obtain rfl : k = n := by omega
      exact HP.out.done HR.out.len HR.out.wf (by unfold maxLen; omega)

/-- The comparison says whether the two read alike. -/
def EqPost (zs ys : List Int) (w : World) (e : Ending) (w' : World) : Prop := e = .returned (.bool (decide (zs = ys))) ∧ Below w.heap.size w w'
theorem below_drews (w : World) (m : Nat) : Below w.heap.size w (w.drewN m) := ⟨rfl, rfl, rfl, Nat.le_refl _, fun _ _ => rfl⟩

theorem ne_at {zs ys : List Int} {k : Nat} (h : ¬ zs.getD k 0 = ys.getD k 0) : ¬ zs = ys := fun e => h (by rw [e])
theorem eq_all {zs ys : List Int} {n : Nat} (h1 : zs.length = n) (h2 : ys.length = n) (h : ∀ j, j < n → zs.getD j 0 = ys.getD j 0) : zs = ys := by
  apply List.ext_getElem (by omega)
  intro i hi hi2
  have := h i (by omega)
  simpa [List.getD_eq_getElem?_getD, hi, hi2] using this
theorem eq_true {zs ys : List Int} (h : zs = ys) : decide (zs = ys) = true := decide_eq_true h
theorem eq_false {zs ys : List Int} (h : ¬ zs = ys) : decide (zs = ys) = false := decide_eq_false h

theorem eqByteS (zs ys : List Int) (lo hi lo2 hi2 : Nat) (A A2 : Option Addr) (n cap n2 cap2 : Nat) (w : World) (h : Rd .u8 w lo hi A n cap zs) (h2 : Rd .u8 w lo2 hi2 A2 n2 cap2 ys) :
    Calls Try.prog 83 #[.slice A n cap, .slice A2 n2 cap2] w (EqPost zs ys w) := by
  have hb := h.cap_
  have hb2 := h2.cap_
  have HR := Lib.hid h
  have HS := Lib.hid h2
  clear h h2
  by_cases hnn : n = n2
  · subst hnn
    go_enter Try.func83, Try.ntmps83
    go_wp2
    go_loopw [5] (fun i wr => ∃ k m : Nat, i = .int .i64 k ∧ k ≤ n ∧ wr = w.drewN m ∧ ∀ j, j < k → zs.getD j 0 = ys.getD j 0) (fun i _ => n - (intOf i).toNat)
    case atStart => exact ⟨0, 0, rfl, by omega, rfl, fun j h => absurd h (by omega)⟩
    case round =>
      obtain ⟨k, m, rfl, hk, rfl, hall⟩ := hrel
      have HA := Lib.hid hall
      clear hall
      by_cases hlt : k < n
      · obtain ⟨b, off, rfl, h1, h2, hc⟩ := HR.out.at_ hlt
        obtain ⟨b2, off2, rfl, h3, h4, hc2⟩ := HS.out.at_ hlt
        obtain ⟨x, hx⟩ : ∃ x, zs.getD k 0 = x := ⟨_, rfl⟩
        obtain ⟨y, hy⟩ : ∃ y, ys.getD k 0 = y := ⟨_, rfl⟩
        rw [hx] at hc
        rw [hy] at hc2
        have HX := Lib.hid (And.intro hx hy)
        clear hx hy
        have hlt2 : (k : Int) < n := by omega
        by_cases hxy : x = y
        · subst hxy
          go_wp2
          go_quiet (fail)
          go_wp2
          go_roundw
          case rel =>
            refine ⟨k + 1, _, by go_num, by omega, rfl, fun j hj => ?_⟩
            rcases Nat.lt_or_ge j k with hjk | hjk
            · exact HA.out j hjk
            · obtain rfl : j = k := by omega
              rw [HX.out.1, HX.out.2]
          case measure => simp [intOf]; omega
        · have hne : (x == y) = false := by simpa using hxy
          go_wp2
          go_quiet (fail)
          go_wp2
          go_ret
          refine ⟨?_, ⟨rfl, rfl, rfl, Nat.le_refl _, fun _ _ => rfl⟩⟩
          rw [eq_false (ne_at (k := k) (by rw [HX.out.1, HX.out.2]; exact hxy))]; rfl
      · have hlt2 : ¬ (k : Int) < n := by omega
        obtain rfl : k = n := by omega
        go_wp2
        go_ret
        refine ⟨?_, ⟨rfl, rfl, rfl, Nat.le_refl _, fun _ _ => rfl⟩⟩
        rw [eq_true (eq_all HR.out.len HS.out.len HA.out)]; rfl
  · have hne : ¬ (n : Int) = n2 := by omega
    have HN : Hid (¬ zs = ys) := by
      intro e
      have h1 := HR.out.len
      have h2 := HS.out.len
      rw [e] at h1
      omega
    go_enter Try.func83, Try.ntmps83
    go_wp2
    go_ret
    exact ⟨by rw [eq_false HN.out]; rfl, Below.refl _ _⟩

theorem eqByteS_yes (zs : List Int) (lo hi lo2 hi2 : Nat) (A A2 : Option Addr) (n cap n2 cap2 : Nat) (w : World) (h : Rd .u8 w lo hi A n cap zs) (h2 : Rd .u8 w lo2 hi2 A2 n2 cap2 zs) :
    Calls Try.prog 83 #[.slice A n cap, .slice A2 n2 cap2] w fun e w' => e = .returned (.bool true) ∧ Below w.heap.size w w' :=
  (eqByteS zs zs lo hi lo2 hi2 A A2 n cap n2 cap2 w h h2).mono fun e w' ⟨he, hb⟩ => ⟨by rw [he, eq_true rfl], hb⟩

/-- The marks: k, k + 1, .. as numbers of the kind. -/
def marks (kd : IntKind) (k : Int) (n : Nat) : List Int := (List.range n).map fun (j : Nat) => kd.wrap (k + j)
theorem marks_len (kd : IntKind) (k : Int) (n : Nat) : (marks kd k n).length = n := by simp [marks]
theorem marks_at (kd : IntKind) (k : Int) {n j : Nat} (h : j < n) : (marks kd k n).getD j 0 = kd.wrap (k + j) := by
  simp [marks, List.getD_eq_getElem?_getD, h]
/-- A marking that has come to i. -/
def Marked (kd : IntKind) (E : TypeId) (w wr : World) (lo hi : Nat) (A : Option Addr) (n cap : Nat) (k : Int) (i : Nat) : Prop :=
  ∃ ys, Ow E kd wr lo hi A n cap ys ∧ (∀ j, j < i → ys.getD j 0 = kd.wrap (k + j)) ∧ Tch lo hi w wr
theorem Marked.step {kd : IntKind} {E : TypeId} {w wr : World} {lo hi n cap : Nat} {k : Int} {i b : Nat} (h : Marked kd E w wr lo hi (some ⟨b, 0, none⟩) n cap k i) (hi' : i < n)
    (hw : (Lit.int kd (kd.wrap (k + i))).wf = true) : Marked kd E w (wr.setCell ⟨b, i, none⟩ (.int kd (kd.wrap (k + i)))) lo hi (some ⟨b, 0, none⟩) n cap k (i + 1) := by
  obtain ⟨ys, h1, h2, h3⟩ := h
  have hl := h1.len
  have hs := h1.1.stored i (.int kd (kd.wrap (k + i)))
  have e : (ys.map (Value.int kd)).set i (.int kd (kd.wrap (k + i))) = (ys.set i (kd.wrap (k + i))).map (Value.int kd) := by rw [List.map_set]
  have hb : lo ≤ b ∧ b < hi := by
    rcases h1.form with ⟨h, _⟩ | ⟨g, cur, h, g1, g2, _⟩
    · cases h
    · injection h with h; injection h with h _; omega
  refine ⟨ys.set i (kd.wrap (k + i)), ⟨?_, ?_, ?_, h1.2.2.2⟩, fun j hj => ?_, ?_⟩
  · rw [← e]; exact hs.1
  · intro z hz
    rcases List.mem_or_eq_of_mem_set hz with hz | hz
    · exact h1.wf z hz
    · rw [hz]; exact hw
  · have := h1.hi_; simpa [World.setCell] using this
  · rw [List.getD_eq_getElem?_getD]
    by_cases hij : j = i
    · subst hij
      rw [List.getElem?_set_self (by omega)]; rfl
    · rw [List.getElem?_set_ne (by omega), ← List.getD_eq_getElem?_getD]
      exact h2 j (by omega)
  · refine ⟨h3.os, h3.tape, h3.output, by simpa [World.setCell] using h3.size, fun q hq hd => ?_⟩
    rw [Below.heap_setCell _ _ _ _ (by show q ≠ b; omega)]
    exact h3.block q hq hd
theorem Marked.start {kd : IntKind} {E : TypeId} {w : World} {lo hi n cap : Nat} {A : Option Addr} {zs : List Int} (h : Ow E kd w lo hi A n cap zs) (k : Int) : Marked kd E w w lo hi A n cap k 0 :=
  ⟨zs, h, fun j hj => absurd hj (by omega), Tch.refl _ _ _⟩
theorem Marked.done {kd : IntKind} {E : TypeId} {w wr : World} {lo hi n cap : Nat} {A : Option Addr} {k : Int} (h : Marked kd E w wr lo hi A n cap k n) : Ow E kd wr lo hi A n cap (marks kd k n) ∧ Tch lo hi w wr := by
  obtain ⟨ys, h1, h2, h3⟩ := h
  have : ys = marks kd k n := eq_all h1.len (marks_len kd k n) fun j hj => by rw [h2 j hj, marks_at kd k hj]
  rw [← this]
  exact ⟨h1, h3⟩
def MarkPost (E : TypeId) (kd : IntKind) (w : World) (lo hi : Nat) (A : Option Addr) (n cap : Nat) (k : Int) (e : Ending) (w' : World) : Prop :=
  e = .returned (.int .i64 (k + n)) ∧ Ow E kd w' lo hi A n cap (marks kd k n) ∧ Tch lo hi w w'
theorem wf_u8_wrap (x : Int) : (Lit.int .u8 (IntKind.u8.wrap x)).wf = true := wf_wrap .u8 x
theorem ret_num {a b : Int} (h : a = b) : Ending.returned (.int .i64 a) = .returned (.int .i64 b) := by rw [h]

theorem markByteS (zs : List Int) (lo hi : Nat) (A : Option Addr) (n cap : Nat) (k : Int) (w : World) (h : Ow 5 .u8 w lo hi A n cap zs) (hk0 : 0 ≤ k) (hk : k ≤ 1099511627776) (hn : n ≤ 67108864) :
    Calls Try.prog 84 #[.slice A n cap, .int .i64 k] w (MarkPost 5 .u8 w lo hi A n cap k) := by
  have HR := Lib.hid h
  clear h
  go_enter Try.func84, Try.ntmps84
  go_wp2
  go_loopw [1, 5] (fun q i wr => ∃ j : Nat, i = .int .i64 j ∧ q = .int .i64 (k + j) ∧ j ≤ n ∧ Marked .u8 5 w wr lo hi A n cap k j) (fun _ i _ => n - (intOf i).toNat)
  case atStart => exact ⟨0, rfl, by simp, by omega, Marked.start HR.out k⟩
  case round =>
    obtain ⟨j, rfl, rfl, hj, hp⟩ := hrel
    have HP := Lib.hid hp
    clear hp
    by_cases hlt : j < n
    · obtain ⟨b, rfl⟩ : ∃ b, A = some ⟨b, 0, none⟩ := by
        obtain ⟨ys, h1, _⟩ := HP.out
        rcases h1.form with ⟨_, h0, _⟩ | ⟨g, cur, h, _⟩
        · omega
        · exact ⟨g, h⟩
      obtain ⟨v, hv⟩ : ∃ v, wr.cell? ⟨b, j, none⟩ = some v := by
        obtain ⟨ys, h1, _⟩ := HP.out
        obtain ⟨b', off, e, _, _, hc⟩ := h1.rd.at_ hlt
        injection e with e; injection e with e1 e2 e3
        subst e1 e2
        rw [Nat.zero_add] at hc
        exact ⟨_, hc⟩
      have hf : wr.frozen? ⟨b, j, none⟩ = false := by
        obtain ⟨ys, h1, _⟩ := HP.out
        exact h1.free rfl j
      have hlt2 : (j : Int) < n := by omega
      go_wp2
      go_roundw
      case rel => exact ⟨j + 1, by go_num, by go_num, by omega, HP.out.step hlt (wf_u8_wrap _)⟩
      case measure => simp [intOf]; omega
    · have hlt2 : ¬ (j : Int) < n := by omega
      obtain rfl : j = n := by omega
      go_wp2
      go_ret
      exact ⟨rfl, HP.out.done⟩

theorem wf_i64_wrap (x : Int) : (Lit.int .i64 (IntKind.i64.wrap x)).wf = true := wf_wrap .i64 x

end Go.Proofs.Ytbkdbdhbmabgcaa.harn
end

section
namespace Go.Proofs.Ytbkdbdhbmabgcaa.sl
open Go.RowKit

section
variable {k : IntKind} {w w' : World} {lo hi n cap : Nat} {A : Option Addr} {zs : List Int} {E : TypeId}
theorem Rd.one (k : IntKind) (E : TypeId) (w : World) (x : Int) (hx : (Lit.int k x).wf = true) : Rd k (w.alloc (.cells #[.int k x] E)) w.heap.size (w.heap.size + 1) (some ⟨w.heap.size, 0, none⟩) 1 1 [x] :=
  ⟨rfl, by omega, by unfold maxLen; omega, by simp, Wf.one hx, fun _ => ⟨_, 0, rfl, Nat.le_refl _, by omega, fun i hi => by
    obtain rfl : i = 0 := by omega
    simp⟩⟩
theorem Ow.alloc (h : Ow E k w lo hi A n cap zs) (o : Obj) : Ow E k (w.alloc o) lo hi A n cap zs := h.below ((Below.refl _ _).alloc (Nat.le_refl _) _)
theorem Rd.alloc (h : Rd k w lo hi A n cap zs) (o : Obj) : Rd k (w.alloc o) lo hi A n cap zs := h.below ((Below.refl _ _).alloc (Nat.le_refl _) _)
theorem Ow.up (h : Ow E k w lo hi A n cap zs) : Ow E k w lo w.heap.size A n cap zs := ⟨h.1, h.2.1, Nat.le_refl _, fun g o e => by have := h.2.2.2 g o e; have := h.hi_; omega⟩
theorem Ow.down {lo2 : Nat} (h : Ow E k w lo hi A n cap zs) (hl : lo2 ≤ lo) : Ow E k w lo2 hi A n cap zs := by
  obtain ⟨⟨h1, h2⟩, h3, h4, h5⟩ := h
  refine ⟨⟨h1, ?_⟩, h3, h4, h5⟩
  rcases h2 with h2 | ⟨g, c, cur, e, g1, g2⟩
  · exact Or.inl h2
  · exact Or.inr ⟨g, c, cur, e, by omega, g2⟩
theorem Ow.nil_ (E : TypeId) (k : IntKind) (w : World) (lo hi : Nat) (hh : hi ≤ w.heap.size) : Ow E k w lo hi none 0 0 [] :=
  ⟨⟨rfl, Or.inl ⟨rfl, rfl⟩⟩, Wf.nil k, hh, fun _ _ e => by cases e⟩
theorem Ow.empty (E : TypeId) (k : IntKind) (w : World) : Ow E k (w.alloc (.cells #[] E)) w.heap.size (w.heap.size + 1) (some ⟨w.heap.size, 0, none⟩) 0 0 [] := by
  have := Ow.lit (E := E) (k := k) (n := 0) w #[] [] rfl (Wf.nil k) (by unfold maxLen; simp) rfl
  simpa using this
end

theorem app {P : Program} (t ty E : TypeId) (i : TypeInfo) (z : Value) (k : IntKind) (h1 : P.underlying t = some (.slice E)) (h2 : P.info? E = some i) (h3 : i.zero = some z) (h4 : i.size = 1) (h5 : i.bytes ≤ 8) (h6 : z.cells.size = 1)
    {w : World} {lo hi lo2 hi2 n cap m c : Nat} {A B : Option Addr} {zs ys : List Int} (ho : Ow E k w lo hi A n cap zs) (hr : Rd k w lo2 hi2 B m c ys) (hn : n + m ≤ 1073741824) (hlo : lo ≤ w.heap.size) :
    ∃ A' cap' w', (Builtin.append_ #[t, t] ty #[.slice A n cap, .slice B m c]).run P w = .ok (.slice A' (n + m) cap') w' ∧ Ow E k w' lo w'.heap.size A' (n + m) cap' (zs ++ ys) ∧ Below lo w w' := by
  have hwf : Wf k (zs ++ ys) := ho.wf.append hr.wf
  cases B with
  | none =>
    have hm : m = 0 := by
      rcases Nat.eq_zero_or_pos m with h | h
      · exact h
      · obtain ⟨b, off, e, _⟩ := hr.at_ h; cases e
    subst hm
    have hy : ys = [] := List.eq_nil_of_length_eq_zero hr.len
    subst hy
    refine ⟨A, cap, w, ?_, by simpa using ho.up, Below.refl _ _⟩
    rcases ho.form with ⟨rfl, rfl, rfl⟩ | ⟨g, cur, rfl, _, _, _, hnc, _⟩
    · simp [Builtin.append_, run_underlying h1, sizeOf, typeInfo, h2, Builtin.lenOf, Builtin.firstCells]
    · simp [Builtin.append_, run_underlying h1, sizeOf, typeInfo, h2, Builtin.lenOf, Builtin.firstCells, hnc, storeCells]
  | some ad =>
    have hcells : ∀ j u, (ys.map (Value.int k))[j]? = some u → w.cell? (ad.add j) = some u := by
      intro j u hu
      have hj : j < ys.length := by
        have := (List.getElem?_eq_some_iff.1 hu).1
        simpa using this
      have hl := hr.len
      obtain ⟨b, off, e, _, _, hc⟩ := hr.at_ (i := j) (by omega)
      injection e with e
      subst e
      have e2 : (⟨b, off, none⟩ : Addr).add j = ⟨b, off + j, none⟩ := by unfold Addr.add; split <;> simp_all
      rw [e2, hc]
      rw [List.getElem?_map, List.getElem?_eq_getElem hj] at hu
      rw [List.getD_eq_getElem?_getD, List.getElem?_eq_getElem hj]
      simpa using hu
    have hb8 : (n + m) * i.bytes ≤ 140737488355328 := by
      have := Nat.mul_le_mul hn h5
      omega
    obtain ⟨v', w', hrun, g1, g2, _, g3⟩ := run_append_own_at (P := P) w lo t ty E i z 1 i.bytes h1 h2 h3 h4 rfl h6 (by omega) _ n _ ho.1 ad m c (ys.map (Value.int k)) (by simpa using hr.len) hcells (one_cells k ys) (by unfold maxLen; omega) hb8 hlo
    rw [← List.map_append] at g1
    obtain ⟨A', cap', rfl, hO⟩ := Ow.of_own g1 hwf
    refine ⟨A', cap', w', hrun, hO, (Below.refl _ _).grown g2 hlo fun q hq => ?_⟩
    rcases ho.form with ⟨rfl, _⟩ | ⟨g, cur, rfl, hg, _⟩
    · simp [Value.ownBlock] at hq
    · simp [Value.ownBlock] at hq; omega

theorem wpList_app {P : Program} (w : World) {ops : Array Oper} {rest : List Oper} {o : Oper} {a : Act} {Q : Exit → Act → World → Prop} (hg : o.guard = none) (s x : Operand) (t : TypeId)
    (hop : o.op = .call { callee := .builtin .append, args := #[s, x], argTypes := #[t, t] })
    (E : TypeId) (i : TypeInfo) (z : Value) (k : IntKind) (h1 : P.underlying t = some (.slice E)) (h2 : P.info? E = some i) (h3 : i.zero = some z) (h4 : i.size = 1) (h5 : i.bytes ≤ 8) (h6 : z.cells.size = 1)
    {lo hi lo2 hi2 n cap m c : Nat} {A B : Option Addr} {zs ys : List Int} (hs : a.eval s = .slice A n cap) (hx : a.eval x = .slice B m c) (ho : Ow E k w lo hi A n cap zs) (hr : Rd k w lo2 hi2 B m c ys) (hn : n + m ≤ 1073741824) (hlo : lo ≤ w.heap.size)
    (hK : ∀ A' cap' w', Ow E k w' lo w'.heap.size A' (n + m) cap' (zs ++ ys) → Below lo w w' → wpList P ops Q rest (a.put o.dst (.slice A' (n + m) cap')) w') : wpList P ops Q (o :: rest) a w := by
  refine wpList_plain hg fun K hK' => ?_
  obtain ⟨A', cap', w', hrun, g1, g2⟩ := app (P := P) t o.type E i z k h1 h2 h3 h4 h5 h6 ho hr hn hlo
  unfold Oper.wp execOp
  simp only [hop, resolve, invoke, builtin, Sem.run_bind, Sem.run_pure, Result.andThen_ok, List.map_toArray, List.map_cons, List.map_nil, hs, hx, hrun]
  exact hK' _ _ (hK A' cap' w' g1 g2)
/-- The same at an operation under a guard that says yes. -/
theorem wpList_app_want {P : Program} (w : World) {ops : Array Oper} {rest : List Oper} {o : Oper} {a : Act} {Q : Exit → Act → World → Prop} (hg : Region.wanted o (yielded ops a.tmps) = true) (s x : Operand) (t : TypeId)
    (hop : o.op = .call { callee := .builtin .append, args := #[s, x], argTypes := #[t, t] })
    (E : TypeId) (i : TypeInfo) (z : Value) (k : IntKind) (h1 : P.underlying t = some (.slice E)) (h2 : P.info? E = some i) (h3 : i.zero = some z) (h4 : i.size = 1) (h5 : i.bytes ≤ 8) (h6 : z.cells.size = 1)
    {lo hi lo2 hi2 n cap m c : Nat} {A B : Option Addr} {zs ys : List Int} (hs : a.eval s = .slice A n cap) (hx : a.eval x = .slice B m c) (ho : Ow E k w lo hi A n cap zs) (hr : Rd k w lo2 hi2 B m c ys) (hn : n + m ≤ 1073741824) (hlo : lo ≤ w.heap.size)
    (hK : ∀ A' cap' w', Ow E k w' lo w'.heap.size A' (n + m) cap' (zs ++ ys) → Below lo w w' → wpList P ops Q rest (a.put o.dst (.slice A' (n + m) cap')) w') : wpList P ops Q (o :: rest) a w := by
  refine Go.BigFrame.wpList_want hg fun K hK' => ?_
  obtain ⟨A', cap', w', hrun, g1, g2⟩ := app (P := P) t o.type E i z k h1 h2 h3 h4 h5 h6 ho hr hn hlo
  unfold Oper.wp execOp
  simp only [hop, resolve, invoke, builtin, Sem.run_bind, Sem.run_pure, Result.andThen_ok, List.map_toArray, List.map_cons, List.map_nil, hs, hx, hrun]
  exact hK' _ _ (hK A' cap' w' g1 g2)
end Go.Proofs.Ytbkdbdhbmabgcaa.sl
end

section
namespace Go.Proofs.Ytbkdbdhbmabgcaa.cuts
open Go.RowKit sl harn
set_option linter.unusedVariables false
theorem rd_pre {k : IntKind} {w : World} {lo hi n cap : Nat} {A : Option Addr} {zs : List Int} (h : Rd k w lo hi A n cap zs) {j : Nat} (hj : j ≤ n) (A' : Option Addr) (hA : 0 < j → A' = A.map (·.add 0)) : Rd k w lo hi A' j cap (zs.take j) := by
  have := h.cut 0 j cap A' (fun g => hA g) (by omega) hj (by have := h.cap_; omega) (by have := h.2.2.1; omega)
  simpa using this
theorem rd_post {k : IntKind} {w : World} {lo hi n cap : Nat} {A : Option Addr} {zs : List Int} (h : Rd k w lo hi A n cap zs) {j : Nat} (hj : j ≤ n) (A' : Option Addr) (hA : j < n → A' = A.map (·.add j)) : Rd k w lo hi A' (n - j) (cap - j) (zs.drop j) := by
  have := h.cut j n (cap - j) A' hA hj (Nat.le_refl _) (by have := h.cap_; omega) (by have := h.2.2.1; omega)
  rwa [List.take_of_length_le (by rw [List.length_drop, h.len]; exact Nat.le_refl _)] at this
theorem slice_pre {P : Program} (t E : TypeId) (i0 : TypeInfo) (hu : P.underlying t = some (.slice E)) (hi : P.info? E = some i0) (hs : i0.size = 1) (A : Option Addr) (n cap j : Nat) (hj : j ≤ cap) :
    ∃ A', (0 < j → A' = A.map (·.add 0)) ∧ ∀ W, (Instr.slice t (.slice A n cap) none (some (.int .i64 j)) none).run P W = .ok (.slice A' j cap) W := by
  refine ⟨if cap = 0 then A else A.map (·.add (0 * 1)), fun h => ?_, fun W => ?_⟩
  · rw [if_neg (by omega)]
  · have hj2 : (j : Int) ≤ cap := by omega
    simp [Instr.slice, run_underlying hu, Instr.sliceBounds, Instr.sliceBound, sizeOf, typeInfo, hi, go_sem]
    intro h; omega
theorem slice_post {P : Program} (t E : TypeId) (i0 : TypeInfo) (hu : P.underlying t = some (.slice E)) (hi : P.info? E = some i0) (hs : i0.size = 1) (A : Option Addr) (n cap j : Nat) (hj : j ≤ n) (hc : n ≤ cap) :
    ∃ A', (j < n → A' = A.map (·.add j)) ∧ ∀ W, (Instr.slice t (.slice A n cap) (some (.int .i64 j)) none none).run P W = .ok (.slice A' (n - j) (cap - j)) W := by
  refine ⟨if cap = j then A else A.map (·.add (j * 1)), fun h => ?_, fun W => ?_⟩
  · rw [if_neg (by omega), Nat.mul_one]
  · have hj2 : (j : Int) ≤ n := by omega
    simp [Instr.slice, run_underlying hu, Instr.sliceBounds, Instr.sliceBound, sizeOf, typeInfo, hi, hs, go_sem]
    intro h; omega
end Go.Proofs.Ytbkdbdhbmabgcaa.cuts
end

section
namespace Go.Proofs.Ytbkdbdhbmabgcaa.draw
open Go.RowKit

theorem low_bits (j : Nat) (hj : j ≤ 62) (n : Int) : bits .and .i64 n ((2 ^ j - 1 : Nat) : Int) = n % ((2 ^ j : Nat) : Int) := by
  have hp : (2 : Nat) ^ j ≤ 2 ^ 62 := Nat.pow_le_pow_right (by omega) hj
  have hp2 : (2 : Nat) ^ 62 = 4611686018427387904 := by decide
  have hpos : 0 < (2 : Nat) ^ j := Nat.two_pow_pos j
  have hm : (BitVec.ofInt 64 ((2 ^ j - 1 : Nat) : Int)).toNat = 2 ^ j - 1 := by
    rw [BitVec.toNat_ofInt]
    have : (((2 ^ j - 1 : Nat) : Int) % ((2 ^ 64 : Nat) : Int)) = ((2 ^ j - 1 : Nat) : Int) := Int.emod_eq_of_lt (by omega) (by omega)
    rw [this]; simp
  have key : (BitVec.ofInt 64 n &&& BitVec.ofInt 64 ((2 ^ j - 1 : Nat) : Int)).toNat = (n % ((2 ^ 64 : Nat) : Int)).toNat % 2 ^ j := by
    rw [BitVec.toNat_and, hm, BitVec.toNat_ofInt, Nat.and_two_pow_sub_one_eq_mod]
  show IntKind.i64.wrap ((BitVec.ofInt 64 n &&& BitVec.ofInt 64 ((2 ^ j - 1 : Nat) : Int)).toNat : Nat) = _
  rw [key]
  have hd : ((2 : Nat) ^ j) ∣ 2 ^ 64 := Nat.pow_dvd_pow 2 (by omega)
  have e : (((n % ((2 ^ 64 : Nat) : Int)).toNat % 2 ^ j : Nat) : Int) = n % ((2 ^ j : Nat) : Int) := by
    rw [Int.natCast_emod, Int.toNat_of_nonneg (Int.emod_nonneg _ (by decide))]
    exact Int.emod_emod_of_dvd n (Int.natCast_dvd_natCast.2 hd)
  rw [e, IntKind.wrap_i64]
  have h1 : 0 ≤ n % ((2 ^ j : Nat) : Int) := Int.emod_nonneg _ (by omega)
  have h2 : n % ((2 ^ j : Nat) : Int) < ((2 ^ j : Nat) : Int) := Int.emod_lt_of_pos _ (by omega)
  omega
theorem low8 (n : Int) : bits .and .i64 n 255 = n % 256 := low_bits 8 (by omega) n
theorem low30 (n : Int) : bits .and .i64 n 1073741823 = n % 1073741824 := low_bits 30 (by omega) n

/-- Only block p of what was there may have been written. -/
structure Keep (p : Nat) (w w' : World) : Prop where
  os : w'.os = w.os
  tape : w'.tape = w.tape
  output : w'.output = w.output
  size : w.heap.size ≤ w'.heap.size
  block : ∀ k, k < w.heap.size → k ≠ p → w'.heap[k]? = w.heap[k]?
theorem Keep.refl (p : Nat) (w : World) : Keep p w w := ⟨rfl, rfl, rfl, Nat.le_refl _, fun _ _ _ => rfl⟩
theorem Keep.trans {p : Nat} {a b c : World} (h : Keep p a b) (k : Keep p b c) : Keep p a c :=
  ⟨k.os.trans h.os, k.tape.trans h.tape, k.output.trans h.output, Nat.le_trans h.size k.size, fun j hj hn => (k.block j (Nat.lt_of_lt_of_le hj h.size) hn).trans (h.block j hj hn)⟩
theorem Keep.below {p B : Nat} {w w' : World} (h : Keep p w w') (hB : B ≤ p) (hs : p < w.heap.size) : Below B w w' :=
  ⟨h.os, h.tape, h.output, h.size, fun k hk => h.block k (by omega) (by omega)⟩
theorem Keep.drew {p : Nat} {a w : World} (h : Keep p a w) : Keep p a w.drew := ⟨h.os, h.tape, h.output, h.size, h.block⟩
theorem Keep.drewN {p : Nat} {a w : World} (h : Keep p a w) (n : Nat) : Keep p a (w.drewN n) := ⟨h.os, h.tape, h.output, h.size, h.block⟩
theorem Keep.setCell {p o : Nat} {a w : World} (h : Keep p a w) (v : Value) : Keep p a (w.setCell ⟨p, o, none⟩ v) :=
  ⟨h.os, h.tape, h.output, by simpa using h.size, fun k hk hn => by rw [Below.heap_setCell w ⟨p, o, none⟩ v k hn]; exact h.block k hk hn⟩
theorem Keep.alloc {p : Nat} {a w : World} (h : Keep p a w) (o : Obj) : Keep p a (w.alloc o) :=
  ⟨h.os, h.tape, h.output, by simp; have := h.size; omega, fun k hk hn => by rw [Below.heap_alloc w o k (Nat.lt_of_lt_of_le hk h.size)]; exact h.block k hk hn⟩
theorem Keep.cell {p : Nat} {w w' : World} (h : Keep p w w') {q : Addr} (hq : q.block < w.heap.size) (hn : q.block ≠ p) : w'.cell? q = w.cell? q := World.cell?_of_block (w := w) (h.block q.block hq hn)

/-- A block of three cells. -/
theorem cell3_0 {w : World} {b : Nat} {x y z : Value} {t : TypeId} (h : w.heap[b]? = some (.cells #[x, y, z] t (0, 0))) : w.cell? ⟨b, 0, none⟩ = some x := by simp [World.cell?, h]
theorem cell3_1 {w : World} {b : Nat} {x y z : Value} {t : TypeId} (h : w.heap[b]? = some (.cells #[x, y, z] t (0, 0))) : w.cell? ⟨b, 1, none⟩ = some y := by simp [World.cell?, h]
theorem cell3_2 {w : World} {b : Nat} {x y z : Value} {t : TypeId} (h : w.heap[b]? = some (.cells #[x, y, z] t (0, 0))) : w.cell? ⟨b, 2, none⟩ = some z := by simp [World.cell?, h]
theorem free3 {w : World} {b : Nat} {x y z : Value} {t : TypeId} (h : w.heap[b]? = some (.cells #[x, y, z] t (0, 0))) (k : Nat) : w.frozen? ⟨b, k, none⟩ = false := by simp [World.frozen?, h]
theorem set3_1 {w : World} {b : Nat} {x y z u : Value} {t : TypeId} (h : w.heap[b]? = some (.cells #[x, y, z] t (0, 0))) : (w.setCell ⟨b, 1, none⟩ u).heap[b]? = some (.cells #[x, u, z] t (0, 0)) := by
  have hlt := lt_of_block h
  have h' : w.heap[b] = .cells #[x, y, z] t (0, 0) := by simpa [Array.getElem?_eq_getElem hlt] using h
  show (w.heap.modify b _)[b]? = _
  rw [Array.getElem?_eq_getElem (by simpa using hlt), Array.getElem_modify_self, h']
  rfl
theorem set3_2 {w : World} {b : Nat} {x y z u : Value} {t : TypeId} (h : w.heap[b]? = some (.cells #[x, y, z] t (0, 0))) : (w.setCell ⟨b, 2, none⟩ u).heap[b]? = some (.cells #[x, y, u] t (0, 0)) := by
  have hlt := lt_of_block h
  have h' : w.heap[b] = .cells #[x, y, z] t (0, 0) := by simpa [Array.getElem?_eq_getElem hlt] using h
  show (w.heap.modify b _)[b]? = _
  rw [Array.getElem?_eq_getElem (by simpa using hlt), Array.getElem_modify_self, h']
  rfl

/-- The bytes that a draw reads. -/
def Code (w : World) (p : Nat) (a : Option Addr) (len : Nat) : Prop :=
  len ≤ 9223372036854775807 ∧ (0 < len → ∃ b off, a = some ⟨b, off, none⟩ ∧ b ≠ p ∧ b < w.heap.size ∧ ∀ i, i < len → ∃ z : Int, 0 ≤ z ∧ z ≤ 255 ∧ w.cell? ⟨b, off + i, none⟩ = some (.int .u8 z))
theorem Code.keep {w w' : World} {p : Nat} {a : Option Addr} {len : Nat} (h : Code w p a len) (k : Keep p w w') : Code w' p a len := by
  refine ⟨h.1, fun hl => ?_⟩
  obtain ⟨b, off, e, hn, hb, hc⟩ := h.2 hl
  refine ⟨b, off, e, hn, Nat.lt_of_lt_of_le hb k.size, fun i hi => ?_⟩
  obtain ⟨z, h1, h2, h3⟩ := hc i hi
  exact ⟨z, h1, h2, by rw [k.cell hb hn]; exact h3⟩
/-- The cursor at block p. -/
def Cur (w : World) (p : Nat) (a : Option Addr) (len cap : Nat) : Prop :=
  Code w p a len ∧ ∃ (i : Nat) (h : Int), i ≤ len ∧ w.heap[p]? = some (.cells #[.slice a len cap, .int .i64 i, .int .i64 h] 99 (0, 0))

def BytePost (p : Nat) (a : Option Addr) (len cap : Nat) (w : World) (e : Ending) (w' : World) : Prop := ∃ x : Int, e = .returned (.int .i64 x) ∧ 0 ≤ x ∧ x ≤ 255 ∧ Keep p w w' ∧ Cur w' p a len cap

theorem byte_more (w : World) (p : Nat) (a : Option Addr) (len cap : Nat) (hcode : Code w p a len) (i : Nat) (h : Int) (hlt : i < len) (hb : w.heap[p]? = some (.cells #[.slice a len cap, .int .i64 i, .int .i64 h] 99 (0, 0))) :
    Calls Try.prog 88 #[.pointer (some ⟨p, 0, none⟩)] w (BytePost p a len cap w) := by
  have c0 := cell3_0 hb
  have c1 := cell3_1 hb
  have c2 := cell3_2 hb
  have z1 := free3 hb 1
  have z2 := free3 hb 2
  have HB := Lib.hid hb
  have HC := Lib.hid hcode
  clear hb
  obtain ⟨b, off, rfl, hbp, -, hcells⟩ := hcode.2 (by omega)
  obtain ⟨z, hz0, hz1, hz⟩ := hcells i hlt
  clear hcells
  have hlt2 : (i : Int) < len := by omega
  have hlen : (len : Int) ≤ 9223372036854775807 := by have := hcode.1; omega
  have HI := Lib.hid hlt
  clear hcode hlt
  go_enter Try.func88, Try.ntmps88
  go_wp2
  generalize wrap64 (wrap64 (h * 6364136223846793005) + 1442695040888963407) = g
  go_quiet (fail)
  obtain ⟨x, hx⟩ : ∃ x, bits BinOp.and IntKind.i64 (bits BinOp.xor IntKind.i64 (g / 8589934592) (g / 140737488355328)) 255 = x := ⟨_, rfl⟩
  have hx0 : 0 ≤ x := by rw [← hx, low8]; omega
  have hx1 : x ≤ 255 := by rw [← hx, low8]; omega
  rw [hx]
  clear hx
  go_wp2
  go_quiet (fail)
  go_wp2
  go_quiet (fail)
  obtain ⟨y, hy⟩ : ∃ y, bits BinOp.and IntKind.i64 (x + z) 255 = y := ⟨_, rfl⟩
  have hy0 : 0 ≤ y := by rw [← hy, low8]; omega
  have hy1 : y ≤ 255 := by rw [← hy, low8]; omega
  rw [hy]
  clear hy
  go_wp2
  go_ret
  have K1 := ((((Keep.refl p w).setCell (o := 2) (.int .i64 g)).drewN 1).setCell (o := 1) (.int .i64 (i + 1)))
  refine ⟨y, rfl, hy0, hy1, ⟨K1.os, K1.tape, K1.output, K1.size, K1.block⟩, HC.out.keep ⟨K1.os, K1.tape, K1.output, K1.size, K1.block⟩, i + 1, g, HI.out, ?_⟩
  exact set3_1 (w := World.drewN _ _) (set3_2 HB.out)

theorem byte_less (w : World) (p : Nat) (a : Option Addr) (len cap : Nat) (hcode : Code w p a len) (i : Nat) (h : Int) (hi : i ≤ len) (hlt : ¬ i < len) (hb : w.heap[p]? = some (.cells #[.slice a len cap, .int .i64 i, .int .i64 h] 99 (0, 0))) :
    Calls Try.prog 88 #[.pointer (some ⟨p, 0, none⟩)] w (BytePost p a len cap w) := by
  have c0 := cell3_0 hb
  have c1 := cell3_1 hb
  have c2 := cell3_2 hb
  have z1 := free3 hb 1
  have z2 := free3 hb 2
  have HB := Lib.hid hb
  have HC := Lib.hid hcode
  clear hb
  clear hcode
  go_enter Try.func88, Try.ntmps88
  go_wp2
  generalize wrap64 (wrap64 (h * 6364136223846793005) + 1442695040888963407) = g
  go_quiet (fail)
  obtain ⟨x, hx⟩ : ∃ x, bits BinOp.and IntKind.i64 (bits BinOp.xor IntKind.i64 (g / 8589934592) (g / 140737488355328)) 255 = x := ⟨_, rfl⟩
  have hx0 : 0 ≤ x := by rw [← hx, low8]; omega
  have hx1 : x ≤ 255 := by rw [← hx, low8]; omega
  rw [hx]
  clear hx
  have hge : ¬ (i : Int) < len := by omega
  have HI := Lib.hid hi
  clear hi hlt
  go_wp2
  go_quiet (fail)
  go_wp2
  go_ret
  exact ⟨x, rfl, hx0, hx1, ((((Keep.refl p w).setCell _).drewN _).drewN _), HC.out.keep (((Keep.refl p w).setCell _).drewN _ |>.drewN _), i, g, HI.out, set3_2 HB.out⟩

theorem byte (w : World) (p : Nat) (a : Option Addr) (len cap : Nat) (hc : Cur w p a len cap) :
    Calls Try.prog 88 #[.pointer (some ⟨p, 0, none⟩)] w (BytePost p a len cap w) := by
  obtain ⟨hcode, i, h, hi, hb⟩ := hc
  by_cases hlt : i < len
  · exact byte_more w p a len cap hcode i h hlt hb
  · exact byte_less w p a len cap hcode i h hi hlt hb

def BelowPost (n : Int) (p : Nat) (a : Option Addr) (len cap : Nat) (w : World) (e : Ending) (w' : World) : Prop := ∃ x : Int, e = .returned (.int .i64 x) ∧ 0 ≤ x ∧ (0 < n → x < n) ∧ Keep p w w' ∧ Cur w' p a len cap

theorem below (n : Int) (hn : n ≤ 9223372036854775807) (w : World) (p : Nat) (a : Option Addr) (len cap : Nat) (hc : Cur w p a len cap) :
    Calls Try.prog 87 #[.pointer (some ⟨p, 0, none⟩), .int .i64 n] w (BelowPost n p a len cap w) := by
  have C0 := Lib.hid hc
  clear hc
  by_cases h1 : n ≤ 0
  · go_enter Try.func87, Try.ntmps87
    go_wp2
    go_ret
    exact ⟨0, rfl, by omega, by omega, Keep.refl _ _, C0.out⟩
  · have h0 : 1 ≤ n := by omega
    by_cases h2 : n ≤ 256
    · clear hn
      go_enter Try.func87, Try.ntmps87
      go_wp2_with (go_at_call 88; refine (byte _ p a len cap C0.out).mono ?_; rintro e w1 ⟨x, rfl, hx0, hx1, hk, hc⟩; have K1 := Lib.hid hk; have C1 := Lib.hid hc; clear hk hc)
      go_ret
      exact ⟨x % n, rfl, Int.emod_nonneg _ (by omega), fun _ => Int.emod_lt_of_pos _ (by omega), K1.out, C1.out⟩
    · go_enter Try.func87, Try.ntmps87
      go_wp2_with (go_at_call 88; refine (byte _ p a len cap C0.out).mono ?_; rintro e w1 ⟨x, rfl, hx0, hx1, hk, hc⟩; have K1 := Lib.hid hk; have C1 := Lib.hid hc; clear hk hc C0)
      go_wp2_with (go_at_call 88; refine (byte _ p a len cap C1.out).mono ?_; rintro e w2 ⟨y, rfl, hy0, hy1, hk, hc⟩; have K2 := Lib.hid (K1.out.trans hk); have C2 := Lib.hid hc; clear hk hc C1 K1)
      go_wp2_with (go_at_call 88; refine (byte _ p a len cap C2.out).mono ?_; rintro e w3 ⟨z, rfl, hz0, hz1, hk, hc⟩; have K3 := Lib.hid (K2.out.trans hk); have C3 := Lib.hid hc; clear hk hc C2 K2)
      go_ret
      exact ⟨_, rfl, Int.emod_nonneg _ (by omega), fun _ => Int.emod_lt_of_pos _ (by omega), K3.out, C3.out⟩

def OncePost (p : Nat) (a : Option Addr) (len cap : Nat) (w : World) (e : Ending) (w' : World) : Prop := ∃ b : Bool, e = .returned (.bool b) ∧ Keep p w w' ∧ Cur w' p a len cap
theorem once (n : Int) (hn : n ≤ 9223372036854775807) (w : World) (p : Nat) (a : Option Addr) (len cap : Nat) (hc : Cur w p a len cap) :
    Calls Try.prog 93 #[.pointer (some ⟨p, 0, none⟩), .int .i64 n] w (OncePost p a len cap w) := by
  have HC := fun W => below n hn W p a len cap
  have C0 := Lib.hid hc
  clear hc hn
  go_enter Try.func93, Try.ntmps93
  go_wp2_with (go_at_call 87; refine (HC _ C0.out).mono ?_; rintro e w1 ⟨x, rfl, hx0, hx1, hk, hc⟩; have K1 := Lib.hid hk; have C1 := Lib.hid hc; clear hk hc hx1)
  go_ret
  exact ⟨_, rfl, K1.out, C1.out⟩

/-- A list of the call's own: n cells of block q, each of which holds a value for which P stands. -/
def Row (P : Value → Prop) (w : World) (p q n : Nat) : Prop := q ≠ p ∧ q < w.heap.size ∧ ∀ i, i < n → ∃ v, P v ∧ w.cell? ⟨q, i, none⟩ = some v
theorem Row.keep {P : Value → Prop} {w w' : World} {p q n : Nat} (h : Row P w p q n) (k : Keep p w w') : Row P w' p q n :=
  ⟨h.1, Nat.lt_of_lt_of_le h.2.1 k.size, fun i hi => by
    obtain ⟨v, h1, h2⟩ := h.2.2 i hi
    exact ⟨v, h1, by rw [k.cell h.2.1 h.1]; exact h2⟩⟩

def PickPost (P : Value → Prop) (p : Nat) (a : Option Addr) (len cap : Nat) (w : World) (e : Ending) (w' : World) : Prop := ∃ v, e = .returned v ∧ P v ∧ Keep p w w' ∧ Cur w' p a len cap
theorem pickInt (P : Int → Prop) (n : Nat) (hn0 : 0 < n) (hn : (n : Int) ≤ 9223372036854775807) (w : World) (p q : Nat) (a : Option Addr) (len cap cap2 : Nat) (hr : Row (fun v => ∃ z, v = .int .i64 z ∧ P z) w p q n) (hc : Cur w p a len cap) :
    Calls Try.prog 51 #[.pointer (some ⟨p, 0, none⟩), .slice (some ⟨q, 0, none⟩) n cap2] w (PickPost (fun v => ∃ z, v = .int .i64 z ∧ P z) p a len cap w) := by
  have HC := fun W => below n hn W p a len cap
  have C0 := Lib.hid hc
  have R0 := Lib.hid hr
  clear hc hr
  go_enter Try.func51, Try.ntmps51
  go_wp2_with (go_at_call 87; refine (HC _ C0.out).mono ?_; rintro e w1 ⟨x, rfl, hx0, hx1, hk, hc⟩; have R1 := Lib.hid (R0.out.keep hk); have K1 := Lib.hid hk; have C1 := Lib.hid hc; clear hk hc R0 C0 HC; (obtain ⟨m, rfl⟩ : ∃ m : Nat, x = m := ⟨x.toNat, by omega⟩); (have hm : m < n := by have := hx1 (by omega); omega); (obtain ⟨v, ⟨z, rfl, hP⟩, hv⟩ := R1.out.2.2 m hm); have HP := Lib.hid hP; clear hP hx1)
  go_ret
  exact ⟨_, rfl, ⟨z, rfl, HP.out⟩, K1.out, C1.out⟩
theorem lt_of_cell {w : World} {a : Addr} {v : Value} (h : w.cell? a = some v) : a.block < w.heap.size := by
  rcases Nat.lt_or_ge a.block w.heap.size with h1 | h1
  · exact h1
  · exfalso
    have : w.heap[a.block]? = none := Array.getElem?_eq_none h1
    simp [World.cell?, this] at h
/-- What a slice of bytes that came in gives. -/
theorem code_of_row {w : World} {a : Option Addr} {len cap : Nat} {zs : List Int} (h : kit.IsRow .u8 w a len cap zs) : Code w w.heap.size a len := by
  rcases h with ⟨rfl, rfl, rfl, rfl⟩ | ⟨x, rfl, hl, hm, hz, hc, hw⟩
  · exact ⟨by omega, fun h => absurd h (by omega)⟩
  · unfold maxLen at hm
    refine ⟨by omega, fun h => ?_⟩
    obtain ⟨b, off, rfl, hcell⟩ := ints_at hc (by omega)
    have e0 := hcell 0 (by omega)
    have hb : b < w.heap.size := lt_of_cell (a := ⟨b, off + 0, none⟩) e0
    refine ⟨b, off, rfl, by omega, hb, fun i hi => ⟨zs.getD i 0, ?_, ?_, hcell i (by omega)⟩⟩
    · have := (range_u8 hw i).1; simpa [List.getD] using this
    · have := (range_u8 hw i).2; simpa [List.getD] using this

def NewPost (a : Option Addr) (len cap : Nat) (w : World) (e : Ending) (w' : World) : Prop := e = .returned (.pointer (some ⟨w.heap.size, 0, none⟩)) ∧ Keep w.heap.size w w' ∧ w.heap.size < w'.heap.size ∧ Cur w' w.heap.size a len cap
theorem new_end (w : World) (a : Option Addr) (len cap : Nat) (h : Int) (hc : Code w w.heap.size a len) :
    NewPost a len cap w (.returned (.pointer (some ⟨w.heap.size, 0, none⟩))) (w.alloc (.cells #[.slice a len cap, .int .i64 0, .int .i64 h] 99)) := by
  have K : Keep w.heap.size w (w.alloc (.cells #[.slice a len cap, .int .i64 0, .int .i64 h] 99)) := (Keep.refl _ _).alloc _
  exact ⟨rfl, K, by simp, hc.keep K, 0, h, by omega, by show (w.heap.push _)[w.heap.size]? = _; simp⟩
theorem new (w : World) (a : Option Addr) (len cap : Nat) (hc : Code w w.heap.size a len) :
    Calls Try.prog 48 #[.slice a len cap] w (NewPost a len cap w) := by
  have HC := Lib.hid hc
  have hlen : (len : Int) ≤ 9223372036854775807 := by have := hc.1; omega
  clear hc
  go_enter Try.func48, Try.ntmps48
  go_wp2
  go_loop [3, 4] (fun g i => ∃ (k : Nat) (h : Int), k ≤ len ∧ g = .int .i64 h ∧ i = .int .i64 k) (fun _ i => len - (intOf i).toNat)
  case atStart => exact ⟨0, _, by omega, rfl, rfl⟩
  case round =>
    obtain ⟨k, h, hk, rfl, rfl⟩ := hrel
    by_cases hlt : k < len
    · have hlt2 : (k : Int) < len := by omega
      by_cases h4 : (k : Int) < 4000
      · obtain ⟨b, off, rfl, hbp, -, hcells⟩ := HC.out.2 (by omega)
        obtain ⟨z, hz0, hz1, hz⟩ := hcells k hlt
        have HI := Lib.hid hlt
        clear hcells hk hlt hlen
        go_wp2
        go_round
        case rel => exact ⟨k + 1, _, HI.out, rfl, by go_num⟩
        case measure => have := HI.out; simp [intOf]; omega
      · go_wp2
        go_ret
        exact new_end w a len cap h HC.out
    · have hlt2 : ¬ (k : Int) < len := by omega
      go_wp2
      go_ret
      exact new_end w a len cap h HC.out
end Go.Proofs.Ytbkdbdhbmabgcaa.draw
end

section
namespace Go.Proofs.Ytbkdbdhbmabgcaa.draw
open Go.RowKit

def okInt (lo hi : Int) : Value → Bool
  | .int .i64 z => decide (lo ≤ z ∧ z ≤ hi)
  | _ => false
theorem of_okInt {lo hi : Int} {v : Value} (h : okInt lo hi v = true) : ∃ z, v = .int .i64 z ∧ (lo ≤ z ∧ z ≤ hi) := by
  unfold okInt at h
  split at h
  · exact ⟨_, rfl, of_decide_eq_true h⟩
  · cases h
theorem row_new {P : Value → Prop} {ok : Value → Bool} (hok : ∀ v, ok v = true → P v) (w : World) (p : Nat) (hp : p < w.heap.size) (vs : Array Value) (t : TypeId) (n : Nat) (hn : vs.size = n) (ha : vs.toList.all ok = true) :
    Row P (w.alloc (.cells vs t)) p w.heap.size n := by
  have hb : (w.alloc (.cells vs t)).heap[w.heap.size]? = some (.cells vs t (0, 0)) := by show (w.heap.push _)[w.heap.size]? = _; simp
  refine ⟨by omega, by simp, fun i hi => ⟨vs[i]'(by omega), hok _ (List.all_eq_true.1 ha _ (by simp)), ?_⟩⟩
  have hi2 : i < vs.size := by omega
  simp only [World.cell?, hb]
  exact Array.getElem?_eq_getElem hi2
theorem Cur.lt {w : World} {p : Nat} {a : Option Addr} {len cap : Nat} (h : Cur w p a len cap) : p < w.heap.size := by
  obtain ⟨-, i, g, -, hb⟩ := h
  exact lt_of_block hb
theorem Cur.alloc {w : World} {p : Nat} {a : Option Addr} {len cap : Nat} (h : Cur w p a len cap) (o : Obj) : Cur (w.alloc o) p a len cap := by
  have hp := h.lt
  obtain ⟨hc, i, g, hi, hb⟩ := h
  exact ⟨hc.keep ((Keep.refl p w).alloc o), i, g, hi, by rw [Below.heap_alloc w o p hp]; exact hb⟩

/-- A number in a range. -/
def IntPost (lo hi : Int) (p : Nat) (a : Option Addr) (len cap : Nat) (w : World) (e : Ending) (w' : World) : Prop := ∃ z : Int, e = .returned (.int .i64 z) ∧ lo ≤ z ∧ z ≤ hi ∧ Keep p w w' ∧ Cur w' p a len cap

theorem pickIn (lo hi : Int) (n : Nat) (hn0 : 0 < n) (hn : (n : Int) ≤ 9223372036854775807) (w : World) (p : Nat) (a : Option Addr) (len cap : Nat) (hc : Cur w p a len cap) (vs : Array Value) (hs : vs.size = n) (ha : vs.toList.all (okInt lo hi) = true) :
    Calls Try.prog 51 #[.pointer (some ⟨p, 0, none⟩), .slice (some ⟨w.heap.size, 0, none⟩) n n] (w.alloc (.cells vs 3)) (IntPost lo hi p a len cap w) := by
  refine (pickInt (fun z => lo ≤ z ∧ z ≤ hi) n hn0 hn _ p w.heap.size a len cap n (row_new (fun v => of_okInt) w p hc.lt vs 3 n hs ha) (hc.alloc _)).mono ?_
  rintro e w1 ⟨v, rfl, ⟨z, rfl, h1, h2⟩, hk, hc1⟩
  exact ⟨z, rfl, h1, h2, ((Keep.refl p w).alloc _).trans hk, hc1⟩

theorem keep_below {w w1 w2 : World} (h : Keep w.heap.size w w1) (h2 : Keep w.heap.size w1 w2) : Below w.heap.size w w2 :=
  have k := h.trans h2
  ⟨k.os, k.tape, k.output, k.size, fun j hj => k.block j hj (by omega)⟩
theorem code_later {w w' : World} {a : Option Addr} {len : Nat} (h : Code w w.heap.size a len) (hb : Below w.heap.size w w') : Code w' w'.heap.size a len := by
  refine ⟨h.1, fun hl => ?_⟩
  obtain ⟨b, off, e, -, hlt, hc⟩ := h.2 hl
  have := hb.size
  refine ⟨b, off, e, by omega, by omega, fun i hi => ?_⟩
  obtain ⟨z, h1, h2, h3⟩ := hc i hi
  exact ⟨z, h1, h2, by rw [hb.cell (p := ⟨b, off + i, none⟩) hlt]; exact h3⟩
end Go.Proofs.Ytbkdbdhbmabgcaa.draw
end

section
namespace Go.Proofs.Ytbkdbdhbmabgcaa.draw
open Go.RowKit sl harn

theorem ow_keep {E : TypeId} {k : IntKind} {w w' : World} {lo hi n cap p : Nat} {A : Option Addr} {zs : List Int} (h : Ow E k w lo hi A n cap zs) (hk : Keep p w w') (hp : p < lo) : Ow E k w' lo hi A n cap zs :=
  h.same hk.size fun b h1 h2 => hk.block b (by have := h.hi_; omega) (by omega)
theorem cur_then {w w1 w2 : World} {p : Nat} {a : Option Addr} {len cap : Nat} (hc0 : Code w p a len) (hp : p < w.heap.size) (hk : Keep p w w1) (hc : Cur w1 p a len cap) (hb : Below w.heap.size w1 w2) : Keep p w w2 ∧ Cur w2 p a len cap := by
  have k2 : Keep p w w2 := ⟨hb.os.trans hk.os, hb.tape.trans hk.tape, hb.output.trans hk.output, Nat.le_trans hk.size hb.size, fun j hj hn => (hb.block j hj).trans (hk.block j hj hn)⟩
  obtain ⟨-, i, g, hi, hblk⟩ := hc
  exact ⟨k2, hc0.keep k2, i, g, hi, (hb.block p hp).trans hblk⟩

theorem below_push' {B : Nat} {w w' : World} {o : Obj} (hl : B ≤ w.heap.size) (hb : Below B (w.alloc o) w') : Below B w w' := ((Below.refl _ _).alloc hl o).trans hb
theorem cur_then2 {w w1 w2 : World} {B : Nat} {a : Option Addr} {len cap : Nat} (hc0 : Code w w.heap.size a len) (hp : w.heap.size < B) (hk : Keep w.heap.size w w1) (hc : Cur w1 w.heap.size a len cap) (hb : Below B w1 w2) : Keep w.heap.size w w2 ∧ Cur w2 w.heap.size a len cap := by
  have k2 : Keep w.heap.size w w2 := ⟨hb.os.trans hk.os, hb.tape.trans hk.tape, hb.output.trans hk.output, Nat.le_trans hk.size hb.size, fun j hj hn => (hb.block j (by omega)).trans (hk.block j hj hn)⟩
  obtain ⟨-, i, g, hi, hblk⟩ := hc
  exact ⟨k2, hc0.keep k2, i, g, hi, (hb.block _ hp).trans hblk⟩
/-- Some bytes, as many as asked for. -/
def SomePost (N : Int) (p : Nat) (a : Option Addr) (len cap : Nat) (w : World) (e : Ending) (w' : World) : Prop :=
  ∃ A n c zs, e = .returned (.slice A n c) ∧ (n : Int) ≤ N ∧ Ow 5 .u8 w' w.heap.size w'.heap.size A n c zs ∧ Keep p w w' ∧ Cur w' p a len cap
/-- Bytes that are being drawn. -/
def Drawing (w wr : World) (p : Nat) (a : Option Addr) (len cap : Nat) (k : Nat) (v : Value) : Prop :=
  ∃ A c zs, v = .slice A k c ∧ Ow 5 .u8 wr w.heap.size wr.heap.size A k c zs ∧ Keep p w wr ∧ Cur wr p a len cap
set_option maxRecDepth 100000 in
theorem bytes (N : Int) (h0 : 0 ≤ N) (hN : N ≤ 1000) (w : World) (p : Nat) (a : Option Addr) (len cap : Nat) (hc : Cur w p a len cap) :
    Calls Try.prog 50 #[.pointer (some ⟨p, 0, none⟩), .int .i64 N] w (SomePost N p a len cap w) := by
  obtain ⟨i0, hi0, hz0, hz1, hz2⟩ := info_parts u8Info
  have C0 := Lib.hid hc
  have P0 := Lib.hid hc.lt
  have HZ := Lib.hid (And.intro hi0 (And.intro hz0 (And.intro hz1 hz2)))
  clear hc hi0 hz0 hz1 hz2
  go_enter Try.func50, Try.ntmps50
  go_wp2
  go_loopw [5, 6] (fun v i wr => ∃ k : Nat, i = .int .i64 k ∧ (k : Int) ≤ N ∧ Drawing w wr p a len cap k v) (fun _ i _ => (N - intOf i).toNat)
  case atStart => exact ⟨0, rfl, by omega, _, _, [], rfl, (Ow.empty 5 .u8 w).up, (Keep.refl p w).alloc _, C0.out.alloc _⟩
  case round =>
    obtain ⟨k, rfl, hk, B, c, zs, rfl, ho, hkp, hcu⟩ := hrel
    have HO := Lib.hid ho
    have HK := Lib.hid hkp
    have HC := Lib.hid hcu
    clear ho hkp hcu
    by_cases hlt : (k : Int) < N
    · go_wp2_with (first
        | (go_at_call 88; refine (byte _ p a len cap HC.out).mono ?_; rintro e w1 ⟨x, rfl, hx0, hx1, hk1, hc1⟩; have HO1 := Lib.hid (ow_keep HO.out hk1 P0.out); have HX := Lib.hid (show (Lit.int .u8 x).wf = true from WalkArith.wf_u8 (by omega)); have HC1 := Lib.hid hc1; have HK1 := Lib.hid (HK.out.trans hk1); (have hs1 : w.heap.size ≤ w1.heap.size := HK1.out.size); clear hk1 hc1 HC HO HK)
        | (at_builtin; refine wpList_app _ rfl _ _ 22 rfl 5 i0 _ .u8 Try.underlying22 HZ.out.1 HZ.out.2.1 HZ.out.2.2.1 (by rw [HZ.out.2.2.2]; omega) rfl rfl rfl (HO1.out.alloc _) (Rd.one .u8 _ _ _ HX.out) (by omega) (by simp; omega) ?_; intro A1 cap1 w3 ho hb1; have HO3 := Lib.hid ho; have HB := Lib.hid (cur_then C0.out.1 P0.out HK1.out HC1.out (below_push' hs1 hb1)); clear ho hb1))
      go_roundw
      case rel => exact ⟨k + 1, by go_num, by omega, A1, cap1, zs ++ [x], rfl, HO3.out, HB.out.1, HB.out.2⟩
      case measure => simp [intOf]; omega
    · go_wp2
      go_ret
      exact ⟨_, _, _, zs, rfl, hk, HO.out, HK.out, HC.out⟩

end Go.Proofs.Ytbkdbdhbmabgcaa.draw
end

section
namespace Go.Proofs.Ytbkdbdhbmabgcaa.bm
open Go.RowKit sl
set_option linter.unusedVariables false

def Bit (z : Int) : Prop := z = 0 ∨ z = 1
/-- Is every element 0 or 1? -/
def isb (l : List Int) : Bool := l.all fun z => decide (0 ≤ z ∧ z ≤ 1)
theorem isb_iff (l : List Int) : isb l = true ↔ ∀ z ∈ l, 0 ≤ z ∧ z ≤ 1 := by simp [isb]
theorem isb_all {l : List Int} (h : isb l = true) : ∀ z ∈ l, 0 ≤ z ∧ z ≤ 1 := (isb_iff l).1 h
theorem isb_getD {l : List Int} (h : isb l = true) (i : Nat) : 0 ≤ l.getD i 0 ∧ l.getD i 0 ≤ 1 := by
  rw [List.getD_eq_getElem?_getD]
  rcases Nat.lt_or_ge i l.length with hi | hi
  · rw [List.getElem?_eq_getElem hi]; exact isb_all h _ (List.getElem_mem hi)
  · rw [List.getElem?_eq_none hi]; simp
theorem isb_of_at {l : List Int} (h : ∀ i, i < l.length → 0 ≤ l.getD i 0 ∧ l.getD i 0 ≤ 1) : isb l = true := (isb_iff l).2 fun z hz => by
  obtain ⟨i, hi, rfl⟩ := List.getElem_of_mem hz
  have := h i hi
  rwa [List.getD_eq_getElem?_getD, List.getElem?_eq_getElem hi] at this
theorem isb_no {l : List Int} {i : Nat} (hi : i < l.length) (h : ¬ (0 ≤ l.getD i 0 ∧ l.getD i 0 ≤ 1)) : isb l = false := by
  cases e : isb l
  · rfl
  · exact absurd (isb_getD e i) h
theorem isb_sub {l m : List Int} (h : isb l = true) (hs : ∀ z ∈ m, z ∈ l) : isb m = true := (isb_iff m).2 fun z hz => isb_all h z (hs z hz)

/-- Is every element from lo to hi? -/
def inr (l : List Int) (lo hi : Int) : Bool := l.all fun z => decide (lo ≤ z ∧ z ≤ hi)
theorem inr_isb (l : List Int) : inr l 0 1 = isb l := rfl
theorem inr_iff (l : List Int) (lo hi : Int) : inr l lo hi = true ↔ ∀ z ∈ l, lo ≤ z ∧ z ≤ hi := by simp [inr]
theorem inr_of_at {l : List Int} {lo hi : Int} (h : ∀ i, i < l.length → lo ≤ l.getD i 0 ∧ l.getD i 0 ≤ hi) : inr l lo hi = true := (inr_iff _ _ _).2 fun z hz => by
  obtain ⟨i, hi, rfl⟩ := List.getElem_of_mem hz
  have := h i hi
  rwa [List.getD_eq_getElem?_getD, List.getElem?_eq_getElem hi] at this
theorem inr_no {l : List Int} {lo hi : Int} {i : Nat} (hi' : i < l.length) (h : ¬ (lo ≤ l.getD i 0 ∧ l.getD i 0 ≤ hi)) : inr l lo hi = false := by
  cases e : inr l lo hi
  · rfl
  · have := (inr_iff _ _ _).1 e (l[i]) (List.getElem_mem hi')
    rw [List.getD_eq_getElem?_getD, List.getElem?_eq_getElem hi'] at h
    exact absurd this h
theorem next_in {zs : List Int} {lo hi : Int} {k : Nat} {x : Int} (h : ∀ j, j < k → lo ≤ zs.getD j 0 ∧ zs.getD j 0 ≤ hi) (hx : zs.getD k 0 = x) (h1 : lo ≤ x) (h2 : x ≤ hi) : ∀ j, j < k + 1 → lo ≤ zs.getD j 0 ∧ zs.getD j 0 ≤ hi := fun j hj => by
  rcases Nat.lt_or_ge j k with hjk | hjk
  · exact h j hjk
  · obtain rfl : j = k := by omega
    rw [hx]; exact ⟨h1, h2⟩

/-- The number of a bit string, bit 0 first. -/
def num : List Int → Int
  | [] => 0
  | x :: l => x + 2 * num l
theorem num_append : ∀ (a b : List Int), num (a ++ b) = num a + num b * 2 ^ a.length
  | [], b => by simp [num]
  | x :: a, b => by
    rw [List.cons_append, num, num, num_append a b, List.length_cons, Int.pow_succ, Int.mul_add, Int.mul_comm 2 (num b * 2 ^ a.length), Int.mul_assoc]; omega
theorem num_in : ∀ {l : List Int}, (∀ z ∈ l, 0 ≤ z ∧ z ≤ 1) → 0 ≤ num l ∧ num l < 2 ^ l.length
  | [], _ => by simp [num]
  | x :: l, h => by
    have h1 := h x (List.mem_cons_self ..)
    have h2 := num_in (l := l) fun z hz => h z (List.mem_cons_of_mem _ hz)
    rw [num, List.length_cons, Int.pow_succ]
    omega
theorem num_take (l : List Int) {k : Nat} (h : k < l.length) : num (l.take (k + 1)) = num (l.take k) + l.getD k 0 * 2 ^ k := by
  rw [List.take_add_one, num_append, List.getElem?_eq_getElem h, List.getD_eq_getElem?_getD, List.getElem?_eq_getElem h]
  simp [num, List.length_take, Nat.min_eq_left (Nat.le_of_lt h)]
theorem pow_le {k m : Nat} (h : k ≤ m) : (2 : Int) ^ k ≤ 2 ^ m := by
  have := Nat.pow_le_pow_right (show 0 < 2 by omega) h
  exact_mod_cast this
theorem pow_pos (k : Nat) : (0 : Int) < 2 ^ k := Int.pow_pos (by omega)

/-- The first c bits of a number. -/
def dig (n : Int) (c : Nat) : List Int := (List.range c).map fun (k : Nat) => n / 2 ^ k % 2
theorem dig_len (n : Int) (c : Nat) : (dig n c).length = c := by simp [dig]
theorem dig_at (n : Int) {c k : Nat} (h : k < c) : (dig n c).getD k 0 = n / 2 ^ k % 2 := by simp [dig, List.getD_eq_getElem?_getD, h]
theorem dig_bit (n : Int) (c : Nat) : ∀ z ∈ dig n c, 0 ≤ z ∧ z ≤ 1 := fun z hz => by
  obtain ⟨k, _, rfl⟩ := List.mem_map.1 hz
  omega
theorem dig_succ (n : Int) (c : Nat) : dig n (c + 1) = dig n c ++ [n / 2 ^ c % 2] := by simp [dig, List.range_succ]
theorem num_dig (n : Int) : ∀ c : Nat, num (dig n c) = n % 2 ^ c
  | 0 => by simp [dig, num]
  | c + 1 => by
    rw [dig_succ, num_append, num_dig n c, dig_len]
    simp only [num]
    have hp := pow_pos c
    have e1 : n % 2 ^ (c + 1) = n % 2 ^ c + n / 2 ^ c % 2 * 2 ^ c := by
      rw [Int.pow_succ]
      have h1 := Int.emod_add_mul_ediv n (2 ^ c)
      have h2 := Int.emod_add_mul_ediv (n / 2 ^ c) 2
      have h3 := Int.emod_lt_of_pos n hp
      have h4 := Int.emod_nonneg n (show (2 : Int) ^ c ≠ 0 by omega)
      generalize n % 2 ^ c = r at *
      generalize n / 2 ^ c = q at *
      have h5 : q % 2 = 0 ∨ q % 2 = 1 := by omega
      generalize q / 2 = s at *
      have e : n = (r + q % 2 * 2 ^ c) + 2 ^ c * 2 * s := by
        rw [← h1]
        conv => lhs; rw [← h2]
        rw [Int.mul_add, Int.mul_comm (2 ^ c) (q % 2), Int.mul_assoc, Int.add_assoc]
      rw [e, Int.add_mul_emod_self_left]
      apply Int.emod_eq_of_lt
      · rcases h5 with h5 | h5 <;> rw [h5] <;> omega
      · rcases h5 with h5 | h5 <;> rw [h5] <;> omega
    rw [e1, Int.mul_zero, Int.add_zero]
theorem ediv2 (n m : Int) (h : 0 ≤ m) : n / 2 / m = n / (2 * m) := by
  rw [Int.ediv_ediv, if_neg (by omega), Int.sub_zero]
theorem num_div : ∀ (l : List Int), (∀ z ∈ l, 0 ≤ z ∧ z ≤ 1) → ∀ k : Nat, num l / 2 ^ k % 2 = l.getD k 0
  | [], _, k => by simp [num]
  | x :: l, h, 0 => by
    have h1 := h x (List.mem_cons_self ..)
    simp [num]; omega
  | x :: l, h, k + 1 => by
    have h1 := h x (List.mem_cons_self ..)
    have ih := num_div l (fun z hz => h z (List.mem_cons_of_mem _ hz)) k
    have e : num (x :: l) / 2 ^ (k + 1) = num l / 2 ^ k := by
      rw [Int.pow_succ, Int.mul_comm (2 ^ k) 2, ← ediv2 _ _ (Int.le_of_lt (pow_pos k))]
      congr 1
      simp only [num]; omega
    rw [e, ih]; simp
theorem dig_num {l : List Int} (h : ∀ z ∈ l, 0 ≤ z ∧ z ≤ 1) : dig (num l) l.length = l := by
  apply List.ext_getElem (dig_len _ _)
  intro i h1 h2
  have := num_div l h i
  rw [List.getD_eq_getElem?_getD, List.getElem?_eq_getElem h2] at this
  simpa [dig] using this

/-- The bits of bytes. -/
def btb (l : List Int) : List Int := l.flatMap fun x => dig x 8
theorem btb_nil : btb [] = [] := rfl
theorem btb_append (a b : List Int) : btb (a ++ b) = btb a ++ btb b := by simp [btb]
theorem btb_one (x : Int) : btb [x] = dig x 8 := by simp [btb]
theorem btb_len (l : List Int) : (btb l).length = 8 * l.length := by
  induction l with
  | nil => rfl
  | cons x l ih => rw [show x :: l = [x] ++ l from rfl, btb_append, List.length_append, ih, btb_one, dig_len, List.length_append]; simp; omega
theorem btb_bit (l : List Int) : ∀ z ∈ btb l, 0 ≤ z ∧ z ≤ 1 := fun z hz => by
  obtain ⟨x, _, h⟩ := List.mem_flatMap.1 hz
  exact dig_bit x 8 z h
theorem btb_isb (l : List Int) : isb (btb l) = true := (isb_iff _).2 (btb_bit l)
theorem btb_wf (l : List Int) : Wf .i64 (btb l) := Wf.of_i64 fun z hz => by have := btb_bit l z hz; omega
theorem btb_take (l : List Int) {k : Nat} (h : k < l.length) : btb (l.take (k + 1)) = btb (l.take k) ++ dig (l.getD k 0) 8 := by
  rw [List.take_add_one, btb_append, List.getElem?_eq_getElem h, List.getD_eq_getElem?_getD, List.getElem?_eq_getElem h]
  simp [btb]

/-- The bytes of bits, eight each. -/
def bytesOf : Nat → List Int → List Int
  | 0, _ => []
  | n + 1, l => num (l.take 8) :: bytesOf n (l.drop 8)
theorem bytesOf_len : ∀ (n : Nat) (l : List Int), (bytesOf n l).length = n
  | 0, _ => rfl
  | n + 1, l => by rw [bytesOf, List.length_cons, bytesOf_len n]
theorem bytesOf_at : ∀ (n : Nat) (l : List Int) (i : Nat), i < n → (bytesOf n l).getD i 0 = num ((l.drop (8 * i)).take 8)
  | 0, _, _, h => absurd h (by omega)
  | n + 1, l, 0, _ => by simp [bytesOf]
  | n + 1, l, i + 1, h => by
    rw [bytesOf, List.getD_cons_succ, bytesOf_at n _ i (by omega), List.drop_drop]
    congr 3; omega
theorem bytesOf_in : ∀ (n : Nat) {l : List Int}, isb l = true → ∀ z ∈ bytesOf n l, 0 ≤ z ∧ z ≤ 255
  | 0, _, _, z, hz => by cases hz
  | n + 1, l, h, z, hz => by
    rcases List.mem_cons.1 hz with hz | hz
    · have h1 := num_in (isb_all (isb_sub h (m := l.take 8) fun z hz => List.mem_of_mem_take hz))
      have h2 := pow_le (k := (l.take 8).length) (m := 8) (by simp; omega)
      subst hz; omega
    · exact bytesOf_in n (isb_sub h (m := l.drop 8) fun z hz => List.mem_of_mem_drop hz) z hz
theorem bytesOf_succ : ∀ (n : Nat) (l : List Int), bytesOf (n + 1) l = bytesOf n l ++ [num ((l.drop (8 * n)).take 8)]
  | 0, l => by simp [bytesOf]
  | n + 1, l => by
    rw [bytesOf, bytesOf_succ n (l.drop 8), bytesOf, List.cons_append, List.drop_drop, show 8 + 8 * n = 8 * (n + 1) by omega]
/-- BitsToBytes: the bytes and whether there are any. -/
def bb (l : List Int) : List Int × Bool := if isb l = true ∧ l.length % 8 = 0 then (bytesOf (l.length / 8) l, true) else ([], false)
theorem bb_yes {l : List Int} (h : isb l = true) (h8 : l.length % 8 = 0) : bb l = (bytesOf (l.length / 8) l, true) := if_pos ⟨h, h8⟩
theorem bb_no {l : List Int} (h : ¬ (isb l = true ∧ l.length % 8 = 0)) : bb l = ([], false) := if_neg h
theorem bytesOf_btb : ∀ (l : List Int), (∀ z ∈ l, 0 ≤ z ∧ z ≤ 255) → bytesOf l.length (btb l) = l
  | [], _ => rfl
  | x :: l, h => by
    have h1 := h x (List.mem_cons_self ..)
    have e : btb (x :: l) = dig x 8 ++ btb l := rfl
    rw [List.length_cons, bytesOf, e, List.take_append_of_le_length (by rw [dig_len]; omega), List.take_of_length_le (by rw [dig_len]; omega), List.drop_append_of_le_length (by rw [dig_len]; omega),
      List.drop_of_length_le (by rw [dig_len]; omega), List.nil_append, bytesOf_btb l (fun z hz => h z (List.mem_cons_of_mem _ hz)), num_dig]
    congr 1; omega
theorem btb_bytesOf : ∀ (n : Nat) (l : List Int), isb l = true → l.length = 8 * n → btb (bytesOf n l) = l
  | 0, l, _, h => by
    have : l = [] := List.length_eq_zero_iff.1 (by omega)
    subst this; rfl
  | n + 1, l, hb, h => by
    have ih := btb_bytesOf n (l.drop 8) (isb_sub hb fun z hz => List.mem_of_mem_drop hz) (by simp; omega)
    have e : btb (bytesOf (n + 1) l) = dig (num (l.take 8)) 8 ++ btb (bytesOf n (l.drop 8)) := rfl
    have hl : (l.take 8).length = 8 := by simp; omega
    have e2 := dig_num (isb_all (isb_sub hb (m := l.take 8) fun z hz => List.mem_of_mem_take hz))
    rw [hl] at e2
    rw [e, ih, e2, List.take_append_drop]
theorem bb_btb {l : List Int} (h : ∀ z ∈ l, 0 ≤ z ∧ z ≤ 255) : bb (btb l) = (l, true) := by
  rw [bb_yes (btb_isb l) (by rw [btb_len]; omega), btb_len, show 8 * l.length / 8 = l.length by omega, bytesOf_btb l h]
theorem bb_len (l : List Int) : (bb l).1.length ≤ l.length := by
  unfold bb; split
  · rw [bytesOf_len]; omega
  · simp
theorem bb_in (l : List Int) : ∀ z ∈ (bb l).1, 0 ≤ z ∧ z ≤ 255 := by
  unfold bb; split
  · rename_i h; exact bytesOf_in _ h.1
  · intro z hz; cases hz

/-- BitsToInt. -/
def bti (l : List Int) : Int := if isb l = true ∧ l.length ≤ 40 then num l else 0
theorem bti_yes {l : List Int} (h : isb l = true) (h8 : l.length ≤ 40) : bti l = num l := if_pos ⟨h, h8⟩
theorem bti_no {l : List Int} (h : ¬ (isb l = true ∧ l.length ≤ 40)) : bti l = 0 := if_neg h
theorem bti_in (l : List Int) : 0 ≤ bti l ∧ bti l < 1099511627776 := by
  unfold bti; split
  · rename_i h
    have h1 := num_in (isb_all h.1)
    have h2 := pow_le h.2
    omega
  · omega
/-- IntToBits. -/
def itb (n c : Int) : List Int := if 0 ≤ n ∧ (0 ≤ c ∧ c ≤ 40) then dig n c.toNat else []
theorem itb_yes {n c : Int} (h : 0 ≤ n) (h2 : 0 ≤ c ∧ c ≤ 40) : itb n c = dig n c.toNat := if_pos ⟨h, h2⟩
theorem itb_no {n c : Int} (h : ¬ (0 ≤ n ∧ (0 ≤ c ∧ c ≤ 40))) : itb n c = [] := if_neg h
theorem itb_len (n c : Int) : (itb n c).length ≤ 40 := by
  unfold itb; split
  · rw [dig_len]; omega
  · simp
theorem itb_wf (n c : Int) : Wf .i64 (itb n c) := Wf.of_i64 fun z hz => by
  unfold itb at hz; split at hz
  · have := dig_bit _ _ z hz; omega
  · cases hz
theorem bti_itb {n : Int} (h0 : 0 ≤ n) (h : n < 65536) : bti (itb n 16) = n := by
  rw [itb_yes h0 (by omega), bti_yes ((isb_iff _).2 (dig_bit n _)) (by rw [dig_len]; omega), num_dig, show Int.toNat 16 = 16 from rfl]
  omega

/-- Weight. -/
def wt (l : List Int) : Int := (l.countP fun z => z == 1 : Nat)
theorem wt_take (l : List Int) {k : Nat} (h : k < l.length) : wt (l.take (k + 1)) = wt (l.take k) + (if l.getD k 0 = 1 then 1 else 0) := by
  rw [List.take_add_one, List.getElem?_eq_getElem h, List.getD_eq_getElem?_getD, List.getElem?_eq_getElem h]
  simp only [wt, Option.toList, List.countP_append, List.countP_singleton, Option.getD_some, beq_iff_eq]
  split <;> simp
theorem wt_in (l : List Int) : 0 ≤ wt l ∧ wt l ≤ l.length := by
  have := List.countP_le_length (p := fun z => z == (1 : Int)) (l := l)
  unfold wt; omega
/-- The elementwise sum modulo 2. -/
def xorB (a b : List Int) : List Int := List.zipWith (fun x y => bits .and .i64 (bits .xor .i64 x y) 1) a b
theorem xorB_len (a b : List Int) : (xorB a b).length = min a.length b.length := by simp [xorB]
theorem xorB_at (a b : List Int) {k : Nat} (h1 : k < a.length) (h2 : k < b.length) : (xorB a b).getD k 0 = bits .and .i64 (bits .xor .i64 (a.getD k 0) (b.getD k 0)) 1 := by
  simp [xorB, List.getD_eq_getElem?_getD, List.getElem?_zipWith, h1, h2]
/-- At how many indices do two lists differ, as far as both go? -/
def diff : List Int → List Int → Int
  | x :: a, y :: b => (if x = y then 0 else 1) + diff a b
  | _, _ => 0
theorem diff_in : ∀ (a b : List Int), 0 ≤ diff a b ∧ diff a b ≤ a.length
  | [], b => by cases b <;> simp [diff]
  | x :: a, [] => by simp [diff]; omega
  | x :: a, y :: b => by
    have := diff_in a b
    simp only [diff, List.length_cons]; split <;> omega
theorem diff_min : ∀ (a b : List Int), diff a b ≤ (min a.length b.length : Nat)
  | [], b => by simp [diff]
  | x :: a, [] => by simp [diff]
  | x :: a, y :: b => by
    have := diff_min a b
    have e : min (x :: a).length (y :: b).length = min a.length b.length + 1 := by simp only [List.length_cons]; omega
    rw [e, diff]; split <;> omega
theorem diff_take : ∀ (a b : List Int) (k : Nat), k < a.length → k < b.length → diff (a.take (k + 1)) (b.take (k + 1)) = diff (a.take k) (b.take k) + (if a.getD k 0 = b.getD k 0 then 0 else 1)
  | x :: a, y :: b, 0, _, _ => by simp [diff]
  | x :: a, y :: b, k + 1, h1, h2 => by
    have := diff_take a b k (by simpa using h1) (by simpa using h2)
    rw [List.take_succ_cons, List.take_succ_cons, List.take_succ_cons, List.take_succ_cons, diff, diff, List.getD_cons_succ, List.getD_cons_succ]
    omega
  | [], _, _, h, _ => absurd h (by simp)
  | _ :: _, [], _, _, h => absurd h (by simp)
theorem diff_all : ∀ (a b : List Int) (k : Nat), min a.length b.length ≤ k → diff (a.take k) (b.take k) = diff a b
  | [], b, k, _ => by simp [diff]
  | x :: a, [], k, _ => by cases k <;> simp [diff]
  | x :: a, y :: b, 0, h => absurd h (by simp)
  | x :: a, y :: b, k + 1, h => by
    simp only [List.take_succ_cons, diff]
    rw [diff_all a b k (by simp only [List.length_cons] at h; omega)]
/-- HammingDistance. -/
def ham (a b : List Int) : Int := (max a.length b.length : Nat) - (min a.length b.length : Nat) + diff a b
theorem ham_in (a b : List Int) : 0 ≤ ham a b ∧ ham a b ≤ a.length + b.length := by
  have h1 := diff_in a b
  have h2 : max a.length b.length + min a.length b.length = a.length + b.length := by omega
  have h4 : min a.length b.length ≤ max a.length b.length := by omega
  have h3 : diff a b ≤ (min a.length b.length : Nat) := diff_min a b
  unfold ham
  generalize max a.length b.length = p at *
  generalize min a.length b.length = q at *
  omega
theorem bit_xor {x y : Int} (hx : 0 ≤ x ∧ x ≤ 1) (hy : 0 ≤ y ∧ y ≤ 1) : bits .and .i64 (bits .xor .i64 x y) 1 = if x = y then 0 else 1 := by
  have h1 : x = 0 ∨ x = 1 := by omega
  have h2 : y = 0 ∨ y = 1 := by omega
  rcases h1 with rfl | rfl <;> rcases h2 with rfl | rfl <;> decide
theorem wt_xor : ∀ (a b : List Int), (∀ z ∈ a, 0 ≤ z ∧ z ≤ 1) → (∀ z ∈ b, 0 ≤ z ∧ z ≤ 1) → wt (xorB a b) = diff a b
  | [], b, _, _ => by cases b <;> rfl
  | x :: a, [], _, _ => rfl
  | x :: a, y :: b, ha, hb => by
    have ih := wt_xor a b (fun z hz => ha z (List.mem_cons_of_mem _ hz)) (fun z hz => hb z (List.mem_cons_of_mem _ hz))
    have e : wt (xorB (x :: a) (y :: b)) = wt (xorB a b) + (if bits .and .i64 (bits .xor .i64 x y) 1 = 1 then 1 else 0) := by
      simp only [wt, xorB, List.zipWith_cons_cons, List.countP_cons, beq_iff_eq]
      split <;> simp
    rw [e, ih, bit_xor (ha x (List.mem_cons_self ..)) (hb y (List.mem_cons_self ..)), diff]
    split <;> simp <;> omega
theorem xor_xor : ∀ (a b : List Int), (∀ z ∈ a, 0 ≤ z ∧ z ≤ 1) → (∀ z ∈ b, 0 ≤ z ∧ z ≤ 1) → a.length = b.length → xorB (xorB a b) b = a
  | [], b, _, _, _ => by cases b <;> rfl
  | x :: a, [], _, _, h => absurd h (by simp)
  | x :: a, y :: b, ha, hb, h => by
    have ih := xor_xor a b (fun z hz => ha z (List.mem_cons_of_mem _ hz)) (fun z hz => hb z (List.mem_cons_of_mem _ hz)) (by simpa using h)
    have h1 := ha x (List.mem_cons_self ..)
    have h2 := hb y (List.mem_cons_self ..)
    have e : xorB (xorB (x :: a) (y :: b)) (y :: b) = bits .and .i64 (bits .xor .i64 (bits .and .i64 (bits .xor .i64 x y) 1) y) 1 :: xorB (xorB a b) b := rfl
    rw [e, ih, bit_xor h1 h2]
    have h3 : x = 0 ∨ x = 1 := by omega
    have h4 : y = 0 ∨ y = 1 := by omega
    rcases h3 with rfl | rfl <;> rcases h4 with rfl | rfl <;> rfl
end Go.Proofs.Ytbkdbdhbmabgcaa.bm
end

section
namespace Go.Proofs.Ytbkdbdhbmabgcaa.rng
open Go.RowKit sl harn

theorem inRange_yes (n a b : Int) (h : a ≤ n ∧ n ≤ b) (w : World) :
    Calls Try.prog 54 #[.int .i64 n, .int .i64 a, .int .i64 b] w fun e w' => e = .returned (.bool true) ∧ w = w' := by
  obtain ⟨h1, h2⟩ := h
  go_enter Try.func54, Try.ntmps54
  go_wp2
  go_ret
  exact ⟨rfl, rfl⟩
theorem inRange_no (n a b : Int) (h : ¬ (a ≤ n ∧ n ≤ b)) (w : World) :
    Calls Try.prog 54 #[.int .i64 n, .int .i64 a, .int .i64 b] w fun e w' => e = .returned (.bool false) ∧ w = w' := by
  by_cases h1 : a ≤ n
  · have h2 : ¬ n ≤ b := by omega
    clear h
    go_enter Try.func54, Try.ntmps54
    go_wp2
    go_ret
    exact ⟨rfl, rfl⟩
  · clear h
    go_enter Try.func54, Try.ntmps54
    go_wp2
    go_ret
    exact ⟨rfl, rfl⟩
theorem l1In_yes (n a b : Int) (h : a ≤ n ∧ n ≤ b) (w : World) :
    Calls Try.prog 57 #[.int .i64 n, .int .i64 a, .int .i64 b] w fun e w' => e = .returned (.bool true) ∧ w = w' := by
  obtain ⟨h1, h2⟩ := h
  go_enter Try.func57, Try.ntmps57
  go_wp2
  go_ret
  exact ⟨rfl, rfl⟩
theorem l1In_no (n a b : Int) (h : ¬ (a ≤ n ∧ n ≤ b)) (w : World) :
    Calls Try.prog 57 #[.int .i64 n, .int .i64 a, .int .i64 b] w fun e w' => e = .returned (.bool false) ∧ w = w' := by
  by_cases h1 : a ≤ n
  · have h2 : ¬ n ≤ b := by omega
    clear h
    go_enter Try.func57, Try.ntmps57
    go_wp2
    go_ret
    exact ⟨rfl, rfl⟩
  · clear h
    go_enter Try.func57, Try.ntmps57
    go_wp2
    go_ret
    exact ⟨rfl, rfl⟩

theorem extremes (x y lo hi : Int) (b : Nat) (w : World) (hlo : lo = if y < x then y else x) (hhi : hi = if x < y then y else x) (hc : w.cell? ⟨b, 0, none⟩ = some (.int .i64 y)) :
    Calls Try.prog 90 #[.int .i64 x, .slice (some ⟨b, 0, none⟩) 1 1] w fun e w' => e = .returned (.tuple #[.int .i64 lo, .int .i64 hi]) ∧ w = w' := by
  rcases Int.lt_trichotomy y x with h | h | h
  · have h2 : ¬ x < y := by omega
    rw [if_pos h] at hlo; rw [if_neg h2] at hhi
    subst hlo hhi
    go_enter Try.func90, Try.ntmps90
    go_wp2
    go_loop [6, 7, 14] (fun l g i => (l = .int .i64 hi ∧ g = .int .i64 hi ∧ i = .int .i64 0) ∨ (l = .int .i64 lo ∧ g = .int .i64 hi ∧ i = .int .i64 1)) (fun _ _ i => (1 - intOf i).toNat)
    case atStart => exact Or.inl ⟨rfl, rfl, rfl⟩
    case round =>
      rcases hrel with ⟨rfl, rfl, rfl⟩ | ⟨rfl, rfl, rfl⟩
      · go_wp2
        go_round
        case rel => exact Or.inr ⟨rfl, rfl, rfl⟩
        case measure => simp [intOf]
      · go_wp2
        go_ret2
        exact ⟨rfl, rfl⟩
  · subst h
    have h2 : ¬ y < y := by omega
    rw [if_neg h2] at hlo hhi
    subst lo hi
    go_enter Try.func90, Try.ntmps90
    go_wp2
    go_loop [6, 7, 14] (fun l g i => (l = .int .i64 y ∧ g = .int .i64 y ∧ i = .int .i64 0) ∨ (l = .int .i64 y ∧ g = .int .i64 y ∧ i = .int .i64 1)) (fun _ _ i => (1 - intOf i).toNat)
    case atStart => exact Or.inl ⟨rfl, rfl, rfl⟩
    case round =>
      rcases hrel with ⟨rfl, rfl, rfl⟩ | ⟨rfl, rfl, rfl⟩
      · go_wp2
        go_round
        case rel => exact Or.inr ⟨rfl, rfl, rfl⟩
        case measure => simp [intOf]
      · go_wp2
        go_ret2
        exact ⟨rfl, rfl⟩
  · have h2 : ¬ y < x := by omega
    rw [if_neg h2] at hlo; rw [if_pos h] at hhi
    subst hlo hhi
    go_enter Try.func90, Try.ntmps90
    go_wp2
    go_loop [6, 7, 14] (fun l g i => (l = .int .i64 lo ∧ g = .int .i64 lo ∧ i = .int .i64 0) ∨ (l = .int .i64 lo ∧ g = .int .i64 hi ∧ i = .int .i64 1)) (fun _ _ i => (1 - intOf i).toNat)
    case atStart => exact Or.inl ⟨rfl, rfl, rfl⟩
    case round =>
      rcases hrel with ⟨rfl, rfl, rfl⟩ | ⟨rfl, rfl, rfl⟩
      · go_wp2
        go_round
        case rel => exact Or.inr ⟨rfl, rfl, rfl⟩
        case measure => simp [intOf]
      · go_wp2
        go_ret2
        exact ⟨rfl, rfl⟩
theorem implMin (x y m : Int) (hm : m = if y < x then y else x) (w : World) :
    Calls Try.prog 53 #[.int .i64 x, .int .i64 y] w fun e w' => e = .returned (.int .i64 m) ∧ Below w.heap.size w w' := by
  obtain ⟨g, hg⟩ : ∃ g, g = if x < y then y else x := ⟨_, rfl⟩
  have HG := Lib.hid hg
  have HM := Lib.hid hm
  clear hm hg
  go_enter Try.func53, Try.ntmps53
  go_wp2_with (first | (go_at_call 90; refine (extremes x y m g _ _ HM.out HG.out (by go_simp)).mono ?_; rintro e w' ⟨rfl, rfl⟩))
  go_ret
  exact ⟨rfl, (Below.refl _ _).alloc (Nat.le_refl _) _⟩
theorem implMax (x y m : Int) (hm : m = if x < y then y else x) (w : World) :
    Calls Try.prog 55 #[.int .i64 x, .int .i64 y] w fun e w' => e = .returned (.int .i64 m) ∧ Below w.heap.size w w' := by
  obtain ⟨g, hg⟩ : ∃ g, g = if y < x then y else x := ⟨_, rfl⟩
  have HG := Lib.hid hg
  have HM := Lib.hid hm
  clear hm hg
  go_enter Try.func55, Try.ntmps55
  go_wp2_with (first | (go_at_call 90; refine (extremes x y g m _ _ HG.out HM.out (by go_simp)).mono ?_; rintro e w' ⟨rfl, rfl⟩))
  go_ret
  exact ⟨rfl, (Below.refl _ _).alloc (Nat.le_refl _) _⟩
theorem specMax (x y m : Int) (hm : m = if x < y then y else x) (w : World) :
    Calls Try.prog 58 #[.int .i64 x, .int .i64 y] w fun e w' => e = .returned (.int .i64 m) ∧ w = w' := by
  by_cases h : x < y
  · rw [if_pos h] at hm; subst hm
    go_enter Try.func58, Try.ntmps58
    go_wp2
    go_ret
    exact ⟨rfl, rfl⟩
  · rw [if_neg h] at hm; subst hm
    go_enter Try.func58, Try.ntmps58
    go_wp2
    go_ret
    exact ⟨rfl, rfl⟩
end Go.Proofs.Ytbkdbdhbmabgcaa.rng
end

section
namespace Go.Proofs.Ytbkdbdhbmabgcaa.bits
open Go.RowKit sl harn bm rng

theorem next_bit {zs : List Int} {k : Nat} {x : Int} (h : ∀ j, j < k → 0 ≤ zs.getD j 0 ∧ zs.getD j 0 ≤ 1) (hx : zs.getD k 0 = x) (h1 : 0 ≤ x) (h2 : x ≤ 1) : ∀ j, j < k + 1 → 0 ≤ zs.getD j 0 ∧ zs.getD j 0 ≤ 1 := fun j hj => by
  rcases Nat.lt_or_ge j k with hjk | hjk
  · exact h j hjk
  · obtain rfl : j = k := by omega
    rw [hx]; exact ⟨h1, h2⟩
theorem ret_bool {a b : Bool} (h : a = b) : Ending.returned (.bool a) = .returned (.bool b) := by rw [h]
theorem take_all {zs : List Int} {n : Nat} (h : zs.length = n) : zs.take n = zs := List.take_of_length_le (by omega)
theorem wt_next {zs : List Int} {k : Nat} {a x : Int} (h : a = wt (zs.take k)) (hk : k < zs.length) (hx : zs.getD k 0 = x) : wt (zs.take (k + 1)) = a + (if x = 1 then 1 else 0) := by
  rw [wt_take zs hk, h, hx]
theorem wt_bd {zs : List Int} {k : Nat} {a : Int} (h : a = wt (zs.take k)) : 0 ≤ a ∧ a ≤ k := by
  have := wt_in (zs.take k)
  rw [h]; simp at this ⊢; omega
/-- Parity. -/
def par (l : List Int) : Int := wt l % 2
end Go.Proofs.Ytbkdbdhbmabgcaa.bits
end

section
namespace Go.Proofs.Ytbkdbdhbmabgcaa.crcm

/-- The register shifted by one bit. -/
def st (x : Nat) : Nat := if x % 2 = 1 then x / 2 ^^^ 33800 else x / 2
theorem st_lt {x : Nat} (h : x < 65536) : st x < 65536 := by
  unfold st; split
  · exact Nat.xor_lt_two_pow (n := 16) (by omega) (by omega)
  · omega
theorem half_xor (x y : Nat) : (x ^^^ y) / 2 = x / 2 ^^^ y / 2 := by
  have := Nat.shiftRight_xor_distrib (a := x) (b := y) (i := 1)
  simpa [Nat.shiftRight_eq_div_pow] using this
theorem odd_xor (x y : Nat) : (x ^^^ y) % 2 = (x % 2 + y % 2) % 2 := by
  have h := Nat.testBit_xor x y 0
  simp only [Nat.testBit_zero] at h
  rcases Nat.mod_two_eq_zero_or_one x with hx | hx <;> rcases Nat.mod_two_eq_zero_or_one y with hy | hy <;> rcases Nat.mod_two_eq_zero_or_one (x ^^^ y) with hz | hz <;> simp_all
theorem st_xor (x y : Nat) : st (x ^^^ y) = st x ^^^ st y := by
  unfold st
  rw [odd_xor, half_xor]
  rcases Nat.mod_two_eq_zero_or_one x with hx | hx <;> rcases Nat.mod_two_eq_zero_or_one y with hy | hy <;> simp only [hx, hy]
  · simp
  · simp [Nat.xor_assoc]
  · simp only [if_true]
    rw [Nat.xor_assoc, Nat.xor_comm (y / 2), ← Nat.xor_assoc]
    simp
  · simp only [Nat.reduceAdd, Nat.mod_self, if_true]
    rw [if_neg (by omega), Nat.xor_assoc, Nat.xor_comm 33800, Nat.xor_assoc, Nat.xor_self, Nat.xor_zero]
/-- The register shifted n times. -/
def sn : Nat → Nat → Nat
  | 0, x => x
  | n + 1, x => sn n (st x)
theorem sn_succ : ∀ (n x : Nat), sn (n + 1) x = st (sn n x)
  | 0, _ => rfl
  | n + 1, x => by rw [sn, sn_succ n, sn]
theorem sn_lt : ∀ (n : Nat) {x : Nat}, x < 65536 → sn n x < 65536
  | 0, _, h => h
  | n + 1, _, h => sn_lt n (st_lt h)
theorem sn_xor : ∀ (n x y : Nat), sn n (x ^^^ y) = sn n x ^^^ sn n y
  | 0, _, _ => rfl
  | n + 1, x, y => by rw [sn, st_xor, sn_xor n]; rfl
/-- A byte's step. -/
def by8 (r b : Nat) : Nat := sn 8 (r ^^^ b)
/-- The register behind the bytes. -/
def reg (r : Nat) (l : List Int) : Nat := l.foldl (fun r b => by8 r b.toNat) r
theorem reg_nil (r : Nat) : reg r [] = r := rfl
theorem reg_cons (r : Nat) (x : Int) (l : List Int) : reg r (x :: l) = reg (by8 r x.toNat) l := rfl
theorem reg_append (r : Nat) (a b : List Int) : reg r (a ++ b) = reg (reg r a) b := by simp [reg]
theorem reg_take (r : Nat) (l : List Int) {k : Nat} (h : k < l.length) : reg r (l.take (k + 1)) = by8 (reg r (l.take k)) (l.getD k 0).toNat := by
  rw [List.take_add_one, reg_append, List.getElem?_eq_getElem h, List.getD_eq_getElem?_getD, List.getElem?_eq_getElem h]
  simp [reg]
def Byt (l : List Int) : Prop := ∀ z ∈ l, 0 ≤ z ∧ z ≤ 255
theorem by8_lt {r : Nat} {b : Int} (h : r < 65536) (hb : 0 ≤ b ∧ b ≤ 255) : by8 r b.toNat < 65536 := sn_lt 8 (Nat.xor_lt_two_pow (n := 16) h (by omega))
theorem reg_lt : ∀ {r : Nat} {l : List Int}, r < 65536 → Byt l → reg r l < 65536
  | _, [], h, _ => h
  | r, x :: l, h, hb => by
    rw [reg_cons]
    exact reg_lt (by8_lt h (hb x (List.mem_cons_self ..))) fun z hz => hb z (List.mem_cons_of_mem _ hz)
/-- The check. -/
def crc (l : List Int) : Nat := reg 65535 l ^^^ 65535
theorem crc_lt {l : List Int} (h : Byt l) : crc l < 65536 := Nat.xor_lt_two_pow (n := 16) (reg_lt (by omega) h) (by omega)
/-- Another register in front of the bytes. -/
theorem reg_xor : ∀ (l : List Int) (r d : Nat), reg (r ^^^ d) l = reg r l ^^^ sn (8 * l.length) d
  | [], r, d => rfl
  | x :: l, r, d => by
    rw [reg_cons, reg_cons, by8, Nat.xor_assoc, Nat.xor_comm d, ← Nat.xor_assoc, sn_xor, reg_xor l]
    congr 1
/-- A byte changed. -/
theorem reg_set : ∀ (l : List Int) (r k : Nat) (d : Nat) (v : Int), k < l.length → v.toNat = (l.getD k 0).toNat ^^^ d → reg r (l.set k v) = reg r l ^^^ sn (8 * (l.length - k)) d
  | [], _, _, _, _, h, _ => absurd h (by simp)
  | x :: l, r, 0, d, v, _, hv => by
    rw [List.set_cons_zero, reg_cons, reg_cons, hv, List.getD_cons_zero, by8, ← Nat.xor_assoc, sn_xor, reg_xor]
    congr 1
  | x :: l, r, k + 1, d, v, h, hv => by
    rw [List.set_cons_succ, reg_cons, reg_cons, reg_set l _ k d v (by simpa using h) (by simpa using hv), List.length_cons]
    congr 2; first | omega | skip

/-- What a frame's check misses by. -/
def miss (l : List Int) : Nat := crc (l.take (l.length - 2)) ^^^ ((l.getD (l.length - 2) 0).toNat ^^^ ((l.getD (l.length - 1) 0).toNat * 256))
/-- What a bit at q of the byte k places ahead of the last one makes of it. -/
def syn (k q : Nat) : Nat := if k = 0 then 2 ^ q * 256 else if k = 1 then 2 ^ q else sn (8 * (k - 1)) (2 ^ q)
theorem mul_xor (a b : Nat) : (a ^^^ b) * 256 = a * 256 ^^^ b * 256 := by
  have := Nat.shiftLeft_xor_distrib (a := a) (b := b) (i := 8)
  simpa [Nat.shiftLeft_eq] using this
theorem take_set_lt {l : List Int} {n k : Nat} {v : Int} (h : n ≤ k) : (l.set k v).take n = l.take n := by
  rw [List.take_set_of_le h]
theorem miss_set (l : List Int) (k q : Nat) (v : Int) (h2 : 2 ≤ l.length) (hk : k < l.length) (hv : v.toNat = (l.getD k 0).toNat ^^^ 2 ^ q) : miss (l.set k v) = miss l ^^^ syn (l.length - 1 - k) q := by
  have gd : ∀ i, (l.set k v).getD i 0 = if k = i then (if k < l.length then v else 0) else l.getD i 0 := by
    intro i
    rw [List.getD_eq_getElem?_getD, List.getElem?_set, List.getD_eq_getElem?_getD]
    split <;> rename_i h
    · subst h; simp
    · rfl
  unfold miss
  rw [List.length_set, gd, gd, if_pos hk]
  by_cases h1 : k = l.length - 1
  · rw [if_neg (by omega), if_pos h1, take_set_lt (by omega), hv, mul_xor, h1, Nat.sub_self, syn, if_pos rfl]
    simp only [Nat.xor_assoc]
  · by_cases h3 : k = l.length - 2
    · rw [if_pos h3, if_neg h1, take_set_lt (by omega), hv, h3, show l.length - 1 - (l.length - 2) = 1 by omega, syn, if_neg (by omega), if_pos rfl]
      simp only [Nat.xor_assoc, Nat.xor_comm (2 ^ q)]
    · rw [if_neg h3, if_neg h1, show (l.set k v).take (l.length - 2) = (l.take (l.length - 2)).set k v by rw [List.take_set], crc, crc,
        reg_set _ _ k (2 ^ q) v (by rw [List.length_take]; omega) (by rw [hv, List.getD_eq_getElem?_getD, List.getD_eq_getElem?_getD, List.getElem?_take, if_pos (by omega)]),
        List.length_take, Nat.min_eq_left (by omega), syn, if_neg (by omega), if_neg (by omega), show l.length - 1 - k - 1 = l.length - 2 - k by omega]
      simp only [Nat.xor_assoc]
      congr 1
      rw [Nat.xor_comm (sn _ _)]
      simp only [Nat.xor_assoc]
theorem syn_ne : ∀ k, k < 11 → ∀ q, q < 8 → syn k q ≠ 0 := by decide +kernel
theorem syn_diff : ∀ k, k < 11 → ∀ q, q < 8 → ∀ k', k' < 11 → ∀ q', q' < 8 → (syn k q = syn k' q' ↔ k = k' ∧ q = q') := by decide +kernel
theorem xor_zero_iff {a b : Nat} : a ^^^ b = 0 ↔ a = b := by
  constructor
  · intro h
    have : (a ^^^ b) ^^^ b = 0 ^^^ b := by rw [h]
    rwa [Nat.xor_assoc, Nat.xor_self, Nat.xor_zero, Nat.zero_xor] at this
  · rintro rfl; exact Nat.xor_self _
theorem or_xor {a b : Nat} (h : a < 256) : a ^^^ (b * 256) = a + b * 256 := by
  have e := Nat.two_pow_add_eq_or_of_lt (show a < 2 ^ 8 by omega) b
  have : a ^^^ (b * 256) = 2 ^ 8 * b ||| a := by
    apply Nat.eq_of_testBit_eq
    intro i
    rw [Nat.testBit_xor, Nat.testBit_or, Nat.mul_comm b 256, show 256 = 2 ^ 8 from rfl, Nat.testBit_two_pow_mul]
    by_cases hi : 8 ≤ i
    · have : a.testBit i = false := Nat.testBit_lt_two_pow (Nat.lt_of_lt_of_le (show a < 2 ^ 8 by omega) (Nat.pow_le_pow_right (by omega) hi))
      simp [this, hi]
    · simp [hi]
  rw [this, ← e]; omega
end Go.Proofs.Ytbkdbdhbmabgcaa.crcm
end

section
namespace Go.Proofs.Ytbkdbdhbmabgcaa.crcs
open Go.RowKit sl harn bm rng crcm

theorem low1 (n : Int) : bits .and .i64 n 1 = n % 2 := draw.low_bits 1 (by omega) n
theorem i64_nat {p : Nat} (h : p < 65536) : (BitVec.ofInt 64 (p : Int)).toNat = p := by rw [BitVec.ofInt_natCast, BitVec.toNat_ofNat]; omega
theorem xor_nat {p q : Nat} (hp : p < 65536) (hq : q < 65536) : bits .xor .i64 (p : Int) (q : Int) = ((p ^^^ q : Nat) : Int) := by
  show IntKind.i64.wrap ((BitVec.ofInt 64 (p : Int) ^^^ BitVec.ofInt 64 (q : Int)).toNat : Int) = _
  rw [BitVec.toNat_xor, i64_nat hp, i64_nat hq, IntKind.wrap_i64]
  have : p ^^^ q < 65536 := Nat.xor_lt_two_pow (n := 16) hp hq
  omega
theorem byt_of_wf {zs : List Int} (h : Wf .u8 zs) : Byt zs := h.u8
theorem st_odd {y : Nat} (h : y % 2 = 1) : st y = y / 2 ^^^ 33800 := if_pos h
theorem st_even {y : Nat} (h : y % 2 = 0) : st y = y / 2 := if_neg (by omega)
theorem ret_num2 {a b : Int} (h : a = b) : Ending.returned (.int .i64 a) = .returned (.int .i64 b) := by rw [h]

end Go.Proofs.Ytbkdbdhbmabgcaa.crcs
end

section
namespace Go.Proofs
open Go.Shelf
def Try.laysnb115_ren : Go.Shelf.Ren := ⟨fun | 115 => 97 | n => n, fun | 37 => 22 | 4 => 4 | 9 => 9 | 5 => 5 | n => n, fun | n => n⟩
theorem Try.laysnb115 : Go.Proofs.Lays.nb115 Try.prog Try.laysnb115_ren := {
  mixed := by kernel_rfl
  f115 := Try.func97.trans (congrArg some (by kernel_rfl))
  t4 := Try.underlying4
  a4 := Try.isAgg4
  z4 := Try.sizeOf4
  v4 := Try.zeroValue4
  t9 := Try.underlying9
  a9 := Try.isAgg9
  z9 := Try.sizeOf9
  v9 := Try.zeroValue9
  t37 := Try.underlying22
  a37 := Try.isAgg22
  z37 := Try.sizeOf22
  v37 := Try.zeroValue22
  t5 := Try.underlying5
  a5 := Try.isAgg5
  z5 := Try.sizeOf5
  v5 := Try.zeroValue5 }
theorem Try.bytes_Equal_all (p1 p2 : Option Addr) (n c m d : Nat) (xs ys : List Int) (w : World) (hx : xs.length = n) (hy : ys.length = m) (h1 : Lib.BytesIn w p1 n xs) (h2 : Lib.BytesIn w p2 m ys) :
    Calls Try.prog 97 #[.slice p1 n c, .slice p2 m d] w fun e w' => e = .returned (.bool (Lib.bytesOf xs == Lib.bytesOf ys)) ∧ w' = w := Any.bytes_Equal_all Try.laysnb115 p1 p2 n c m d xs ys w hx hy h1 h2
end Go.Proofs
end

section
namespace Go.Proofs.Ytbkdbdhbmabgcaa.eqs
open Go.RowKit sl harn

theorem bytesIn {w : World} {lo hi n cap : Nat} {A : Option Addr} {zs : List Int} (h : Rd .u8 w lo hi A n cap zs) : Lib.BytesIn w A n zs := fun hn => by
  obtain ⟨b, off, e, _, _, hc⟩ := h.2.2.2.2.2 hn
  exact ⟨b, off, e, hc⟩
theorem bytesOf_inj : ∀ {xs ys : List Int}, Wf .u8 xs → Wf .u8 ys → Lib.bytesOf xs = Lib.bytesOf ys → xs = ys
  | [], [], _, _, _ => rfl
  | [], _ :: _, _, _, h => by simp [Lib.bytesOf] at h
  | _ :: _, [], _, _, h => by simp [Lib.bytesOf] at h
  | x :: xs, y :: ys, hx, hy, h => by
    simp only [Lib.bytesOf, List.map_cons, List.cons.injEq] at h
    have h1 := hx.u8 x (List.mem_cons_self ..)
    have h2 := hy.u8 y (List.mem_cons_self ..)
    have e : x = y := by
      have := congrArg UInt8.toNat h.1
      simp at this
      omega
    rw [e, bytesOf_inj (xs := xs) (ys := ys) (fun z hz => hx z (List.mem_cons_of_mem _ hz)) (fun z hz => hy z (List.mem_cons_of_mem _ hz)) h.2]
theorem bytesOf_eq {xs ys : List Int} (hx : Wf .u8 xs) (hy : Wf .u8 ys) : (Lib.bytesOf xs == Lib.bytesOf ys) = decide (xs = ys) := by
  by_cases h : xs = ys
  · subst h; simp
  · have : ¬ Lib.bytesOf xs = Lib.bytesOf ys := fun e => h (bytesOf_inj hx hy e)
    simp [h, this]
theorem ret_bool {a b : Bool} (h : a = b) : Ending.returned (.bool a) = .returned (.bool b) := by rw [h]

theorem implEqB (zs ys : List Int) (lo hi lo2 hi2 : Nat) (A A2 : Option Addr) (n cap n2 cap2 : Nat) (w : World) (h : Rd .u8 w lo hi A n cap zs) (h2 : Rd .u8 w lo2 hi2 A2 n2 cap2 ys) :
    Calls Try.prog 91 #[.slice A n cap, .slice A2 n2 cap2] w (EqPost zs ys w) := by
  have hc := Try.bytes_Equal_all A A2 n cap n2 cap2 zs ys w h.len h2.len (bytesIn h) (bytesIn h2)
  rw [bytesOf_eq h.wf h2.wf] at hc
  obtain ⟨b, hb⟩ : ∃ b, decide (zs = ys) = b := ⟨_, rfl⟩
  rw [hb] at hc
  have HB := Lib.hid hb
  have HC := Lib.hid hc
  clear h h2 hb hc
  go_enter Try.func91, Try.ntmps91
  go_wp2_with (go_at_call 97; refine HC.out.mono ?_; rintro e w1 ⟨rfl, rfl⟩)
  go_ret
  exact ⟨ret_bool HB.out.symm, Below.refl _ _⟩
theorem EqPost_parts {zs ys : List Int} {b : Bool} (ht : decide (zs = ys) = b) {w : World} {e : Ending} {w' : World} (h : EqPost zs ys w e w') : e = .returned (.bool b) ∧ Below w.heap.size w w' := by
  unfold EqPost at h; rw [ht] at h; exact h
end Go.Proofs.Ytbkdbdhbmabgcaa.eqs
end

section
namespace Go.Proofs.Ytbkdbdhbmabgcaa.enc

/-- The varint of a number. -/
def enc (n : Nat) : List Int := if n < 128 then [(n : Int)] else ((n % 128 + 128 : Nat) : Int) :: enc (n / 128)
termination_by n
decreasing_by omega
theorem enc_less {n : Nat} (h : n < 128) : enc n = [(n : Int)] := by rw [enc, if_pos h]
theorem enc_more {n : Nat} (h : 128 ≤ n) : enc n = ((n % 128 + 128 : Nat) : Int) :: enc (n / 128) := by rw [enc, if_neg (by omega)]
theorem enc_len : ∀ (k n : Nat), n < 128 ^ (k + 1) → (enc n).length ≤ k + 1
  | 0, n, h => by rw [enc_less (by simpa using h)]; simp
  | k + 1, n, h => by
    by_cases h1 : n < 128
    · rw [enc_less h1]; simp
    · rw [enc_more (by omega), List.length_cons]
      have := enc_len k (n / 128) (by rw [Nat.div_lt_iff_lt_mul (by omega)]; rw [Nat.pow_succ] at h; exact h)
      omega
theorem enc_len6 {n : Nat} (h : n ≤ 1000000000000) : (enc n).length ≤ 6 := enc_len 5 n (by omega)
theorem enc_pos (n : Nat) : 1 ≤ (enc n).length := by rw [enc]; split <;> simp
theorem enc_wf (n : Nat) : ∀ z ∈ enc n, 0 ≤ z ∧ z ≤ 255 := by
  induction n using Nat.strongRecOn with
  | _ n ih =>
    intro z hz
    by_cases h : n < 128
    · rw [enc_less h] at hz
      have : z = n := by simpa using hz
      omega
    · rw [enc_more (by omega)] at hz
      rcases List.mem_cons.1 hz with hz | hz
      · omega
      · exact ih (n / 128) (by omega) z hz

/-- The varint in front of a list: its number and how many bytes; f groups at most, k of them read, a gathered. -/
def dec : Nat → List Int → Nat → Int → Option (Int × Nat)
  | 0, _, _, _ => none
  | _ + 1, [], _, _ => none
  | f + 1, x :: r, k, a => if x < 128 then (if (x = 0 ∧ 0 < k) ∨ 1000000000000 < a + x * 128 ^ k then none else some (a + x * 128 ^ k, k + 1)) else dec f r (k + 1) (a + (x - 128) * 128 ^ k)
theorem dec_zero (l : List Int) (k : Nat) (a : Int) : dec 0 l k a = none := rfl
theorem dec_nil (f k : Nat) (a : Int) : dec f [] k a = none := by cases f <;> rfl
theorem dec_last {f : Nat} {x : Int} {r : List Int} {k : Nat} {a : Int} (h : x < 128) : dec (f + 1) (x :: r) k a = if (x = 0 ∧ 0 < k) ∨ 1000000000000 < a + x * 128 ^ k then none else some (a + x * 128 ^ k, k + 1) := by
  rw [dec, if_pos h]
theorem dec_more {f : Nat} {x : Int} {r : List Int} {k : Nat} {a : Int} (h : ¬ x < 128) : dec (f + 1) (x :: r) k a = dec f r (k + 1) (a + (x - 128) * 128 ^ k) := by
  rw [dec, if_neg h]

theorem dec_enc : ∀ (f n k : Nat) (a : Int) (r : List Int), (enc n).length ≤ f → (0 < k → 0 < n) → a + n * 128 ^ k ≤ 1000000000000 → dec f (enc n ++ r) k a = some (a + n * 128 ^ k, k + (enc n).length) := by
  intro f
  induction f with
  | zero => intro n k a r h; have := enc_pos n; omega
  | succ f ih =>
    intro n k a r h h0 hm
    by_cases hn : n < 128
    · rw [enc_less hn, List.singleton_append, dec_last (by omega), if_neg (by rintro (h | h) <;> omega)]
      rfl
    · have hp : (0 : Int) ≤ 128 ^ k := Int.pow_nonneg (by omega)
      have e : (a + (((n % 128 + 128 : Nat) : Int) - 128) * 128 ^ k) + ((n / 128 : Nat) : Int) * 128 ^ (k + 1) = a + n * 128 ^ k := by
        have e1 : ((n % 128 + 128 : Nat) : Int) - 128 = ((n % 128 : Nat) : Int) := by omega
        have e2 : (n : Int) = ((n % 128 : Nat) : Int) + ((n / 128 : Nat) : Int) * 128 := by omega
        rw [e1, Int.pow_succ]
        conv => rhs; rw [e2]
        rw [Int.add_mul, Int.add_assoc, Int.mul_assoc, Int.mul_comm 128 (128 ^ k)]
      rw [enc_more (by omega)] at h ⊢
      rw [List.cons_append, dec_more (by omega), ih (n / 128) (k + 1) _ r (by simpa using h) (by omega) (by rw [e]; exact hm), e, List.length_cons]
      congr 2; omega

theorem enc_dec : ∀ (f : Nat) (l : List Int) (k : Nat) (a m : Int) (c : Nat), (∀ z ∈ l, 0 ≤ z ∧ z ≤ 255) → dec f l k a = some (m, c) →
    ∃ y : Nat, m = a + y * 128 ^ k ∧ (0 < k → 0 < y) ∧ c = k + (enc y).length ∧ l.take (c - k) = enc y ∧ m ≤ 1000000000000 := by
  intro f
  induction f with
  | zero => intro l k a m c _ h; cases h
  | succ f ih =>
    intro l k a m c hl h
    cases l with
    | nil => cases h
    | cons x r =>
      have hx := hl x (List.mem_cons_self ..)
      by_cases h1 : x < 128
      · rw [dec_last h1] at h
        split at h
        · cases h
        · injection h with h
          injection h with e1 e2
          have ex : ((x.toNat : Nat) : Int) = x := by omega
          have el : enc x.toNat = [x] := by rw [enc_less (by omega), ex]
          rename_i hno
          refine ⟨x.toNat, by rw [ex, e1], fun h => ?_, by rw [el, ← e2]; rfl, ?_, by omega⟩
          · rcases Nat.eq_zero_or_pos x.toNat with h0 | h0
            · exact absurd (Or.inl ⟨by omega, h⟩) hno
            · exact h0
          · rw [el, ← e2, Nat.add_sub_cancel_left]; simp
      · rw [dec_more h1] at h
        obtain ⟨y, e1, e2, e3, e4, e5⟩ := ih r (k + 1) _ m c (fun z hz => hl z (List.mem_cons_of_mem _ hz)) h
        have hy := e2 (by omega)
        have ey : enc ((x - 128).toNat + 128 * y) = x :: enc y := by
          rw [enc_more (by omega)]
          have d1 : ((x - 128).toNat + 128 * y) / 128 = y := by omega
          have d2 : ((((x - 128).toNat + 128 * y) % 128 + 128 : Nat) : Int) = x := by omega
          rw [d1, d2]
        have hc : k + 1 ≤ c := by omega
        refine ⟨(x - 128).toNat + 128 * y, ?_, by omega, by rw [ey, List.length_cons]; omega, ?_, e5⟩
        · rw [e1, Int.pow_succ]
          have e6 : (((x - 128).toNat + 128 * y : Nat) : Int) = (x - 128) + y * 128 := by omega
          rw [e6, Int.add_mul, Int.add_assoc, Int.mul_assoc, Int.mul_comm 128 (128 ^ k)]
        · rw [ey, show c - k = (c - (k + 1)) + 1 by omega, List.take_succ_cons, e4]
theorem dec_c {f : Nat} {l : List Int} {k : Nat} {a m : Int} {c : Nat} (hl : ∀ z ∈ l, 0 ≤ z ∧ z ≤ 255) (h : dec f l k a = some (m, c)) : k + 1 ≤ c ∧ c ≤ k + l.length ∧ (0 ≤ a → a ≤ m) := by
  obtain ⟨y, e1, e2, e3, e4, e5⟩ := enc_dec f l k a m c hl h
  have h1 := enc_pos y
  have h2 := congrArg List.length e4
  rw [List.length_take] at h2
  refine ⟨by omega, by omega, fun h0 => ?_⟩
  have : (0 : Int) ≤ y * 128 ^ k := Int.mul_nonneg (by omega) (Int.pow_nonneg (by omega))
  omega

/-- What AppendUvarint hands back. -/
def uv (b : List Int) (n : Int) : List Int := if 0 ≤ n ∧ n ≤ 1000000000000 then b ++ enc n.toNat else b
theorem uv_in {b : List Int} {n : Int} (h : 0 ≤ n ∧ n ≤ 1000000000000) : uv b n = b ++ enc n.toNat := if_pos h
theorem uv_out {b : List Int} {n : Int} (h : ¬ (0 ≤ n ∧ n ≤ 1000000000000)) : uv b n = b := if_neg h
theorem uv_len (b : List Int) (n : Int) : (uv b n).length ≤ b.length + 6 := by
  unfold uv
  split
  · rename_i h
    rw [List.length_append]
    have := enc_len6 (n := n.toNat) (by omega)
    omega
  · omega
theorem uv_wf {b : List Int} (hb : ∀ z ∈ b, 0 ≤ z ∧ z ≤ 255) (n : Int) : ∀ z ∈ uv b n, 0 ≤ z ∧ z ≤ 255 := by
  unfold uv
  split
  · intro z hz
    rcases List.mem_append.1 hz with hz | hz
    · exact hb z hz
    · exact enc_wf _ z hz
  · exact hb
/-- What ReadUvarint hands back. -/
def rv (b : List Int) (off : Int) : Int × Int × Bool :=
  if 0 ≤ off ∧ off < b.length then
    match dec 6 (b.drop off.toNat) 0 0 with
    | some (m, c) => (m, off + c, true)
    | none => (0, 0, false)
  else (0, 0, false)
theorem rv_out {b : List Int} {off : Int} (h : ¬ (0 ≤ off ∧ off < b.length)) : rv b off = (0, 0, false) := if_neg h
theorem rv_none {b : List Int} {off : Int} (hd : dec 6 (b.drop off.toNat) 0 0 = none) : rv b off = (0, 0, false) := by
  unfold rv; split
  · rw [hd]
  · rfl
theorem rv_some {b : List Int} {off m : Int} {c : Nat} (h : 0 ≤ off ∧ off < b.length) (hd : dec 6 (b.drop off.toNat) 0 0 = some (m, c)) : rv b off = (m, off + c, true) := by
  unfold rv; rw [if_pos h, hd]
/-- What a reading that went well says. -/
theorem rv_ok {b : List Int} (hb : ∀ z ∈ b, 0 ≤ z ∧ z ≤ 255) {off m nx : Int} (h : rv b off = (m, nx, true)) :
    0 ≤ off ∧ off < nx ∧ nx ≤ b.length ∧ 0 ≤ m ∧ m ≤ 1000000000000 ∧ enc m.toNat = (b.drop off.toNat).take (nx - off).toNat := by
  unfold rv at h
  split at h
  · rename_i ho
    cases hd : dec 6 (b.drop off.toNat) 0 0 with
    | none => rw [hd] at h; cases h
    | some p =>
      obtain ⟨m', c⟩ := p
      rw [hd] at h
      injection h with e1 e2; injection e2 with e2 e3
      subst e1 e2
      obtain ⟨y, g1, g2, g3, g4, g5⟩ := enc_dec 6 _ 0 0 m' c (fun z hz => hb z (List.mem_of_mem_drop hz)) hd
      obtain ⟨g6, g7, g8⟩ := dec_c (fun z hz => hb z (List.mem_of_mem_drop hz)) hd
      rw [List.length_drop] at g7
      have ey : m'.toNat = y := by rw [g1]; simp
      refine ⟨ho.1, by omega, by omega, g8 (by omega), g5, ?_⟩
      rw [ey, ← g4]
      congr 1; omega
  · cases h
theorem rv_bad {b : List Int} {off : Int} (h : (rv b off).2.2 = false) : rv b off = (0, 0, false) := by
  unfold rv at h ⊢
  split at h
  · rename_i ho
    rw [if_pos ho]
    cases hd : dec 6 (b.drop off.toNat) 0 0 with
    | none => rfl
    | some p => rw [hd] at h; cases h
  · rename_i ho
    rw [if_neg ho]
theorem rv_enc (b r : List Int) (n : Int) (h : 0 ≤ n ∧ n ≤ 1000000000000) : rv (b ++ (enc n.toNat ++ r)) b.length = (n, (b.length : Int) + ((enc n.toNat).length : Int), true) := by
  have hp := enc_pos n.toNat
  have hd := dec_enc 6 n.toNat 0 0 r (enc_len6 (by omega)) (by omega) (by simp; omega)
  have e : (b ++ (enc n.toNat ++ r)).drop ((b.length : Int)).toNat = enc n.toNat ++ r := by simp
  rw [rv_some (by simp; omega) (by rw [e]; exact hd)]
  simp; omega
end Go.Proofs.Ytbkdbdhbmabgcaa.enc
end

section
namespace Go.Proofs.Ytbkdbdhbmabgcaa.uvs
open Go.RowKit sl enc harn

theorem inRange_yes (n a b : Int) (h : a ≤ n ∧ n ≤ b) (w : World) :
    Calls Try.prog 54 #[.int .i64 n, .int .i64 a, .int .i64 b] w fun e w' => e = .returned (.bool true) ∧ w = w' := by
  obtain ⟨h1, h2⟩ := h
  go_enter Try.func54, Try.ntmps54
  go_wp2
  go_ret
  exact ⟨rfl, rfl⟩
theorem inRange_no (n a b : Int) (h : ¬ (a ≤ n ∧ n ≤ b)) (w : World) :
    Calls Try.prog 54 #[.int .i64 n, .int .i64 a, .int .i64 b] w fun e w' => e = .returned (.bool false) ∧ w = w' := by
  by_cases h1 : a ≤ n
  · have h2 : ¬ n ≤ b := by omega
    clear h
    go_enter Try.func54, Try.ntmps54
    go_wp2
    go_ret
    exact ⟨rfl, rfl⟩
  · clear h
    go_enter Try.func54, Try.ntmps54
    go_wp2
    go_ret
    exact ⟨rfl, rfl⟩
theorem l1In_yes (n a b : Int) (h : a ≤ n ∧ n ≤ b) (w : World) :
    Calls Try.prog 57 #[.int .i64 n, .int .i64 a, .int .i64 b] w fun e w' => e = .returned (.bool true) ∧ w = w' := by
  obtain ⟨h1, h2⟩ := h
  go_enter Try.func57, Try.ntmps57
  go_wp2
  go_ret
  exact ⟨rfl, rfl⟩
theorem l1In_no (n a b : Int) (h : ¬ (a ≤ n ∧ n ≤ b)) (w : World) :
    Calls Try.prog 57 #[.int .i64 n, .int .i64 a, .int .i64 b] w fun e w' => e = .returned (.bool false) ∧ w = w' := by
  by_cases h1 : a ≤ n
  · have h2 : ¬ n ≤ b := by omega
    clear h
    go_enter Try.func57, Try.ntmps57
    go_wp2
    go_ret
    exact ⟨rfl, rfl⟩
  · clear h
    go_enter Try.func57, Try.ntmps57
    go_wp2
    go_ret
    exact ⟨rfl, rfl⟩

/-- A part of a slice of bytes: it is read where it lies. -/
def PartPost (lo hi : Nat) (zs : List Int) (i j : Nat) (w : World) (e : Ending) (w' : World) : Prop :=
  ∃ A, e = .returned (.slice A (j - i) (j - i)) ∧ Rd .u8 w lo hi A (j - i) (j - i) ((zs.drop i).take (j - i)) ∧ w = w'
theorem part (lo hi : Nat) (A : Option Addr) (n cap : Nat) (zs : List Int) (i j : Nat) (w : World) (h : Rd .u8 w lo hi A n cap zs) (h1 : i ≤ j) (h2 : j ≤ n) :
    Calls Try.prog 89 #[.slice A n cap, .int .i64 i, .int .i64 j] w (PartPost lo hi zs i j w) := by
  have hb := h.cap_
  have h3 : j ≤ cap := by omega
  have HR := Lib.hid h
  clear h
  by_cases hij : j = i
  · subst hij
    go_enter Try.func89, Try.ntmps89
    go_wp2
    go_ret
    exact ⟨A, by rw [Nat.sub_self]; rfl, HR.out.cut j j (j - j) A (fun h => by omega) h1 h2 (Nat.le_refl _) (by unfold maxLen; omega), rfl⟩
  · go_enter Try.func89, Try.ntmps89
    go_wp2
    go_ret
    exact ⟨_, rfl, HR.out.cut i j (j - i) _ (fun h => by simp) h1 h2 (Nat.le_refl _) (by unfold maxLen; omega), rfl⟩

/-- A copy in new memory. -/
theorem copyPart (lo hi : Nat) (A : Option Addr) (n cap : Nat) (zs : List Int) (i j : Nat) (w : World) (h : Rd .u8 w lo hi A n cap zs) (h1 : i ≤ j) (h2 : j ≤ n) (hn : n ≤ 134217728) :
    Calls Try.prog 52 #[.slice A n cap, .int .i64 i, .int .i64 j] w (SlPost 5 .u8 w ((zs.drop i).take (j - i))) := by
  obtain ⟨i0, hi0, hz0, hz1, hz2⟩ := info_parts u8Info
  have hb := h.cap_
  have HR := Lib.hid h
  have HZ := Lib.hid (And.intro hi0 (And.intro hz0 (And.intro hz1 hz2)))
  clear h hi0 hz0 hz1 hz2
  go_enter Try.func52, Try.ntmps52
  go_wp2_with (first
    | (go_at_call 89; refine (part lo hi A n cap zs i j _ (HR.out.alloc _) h1 h2).mono ?_; rintro e w1 ⟨B, rfl, hr, rfl⟩; have HP := Lib.hid hr; clear hr)
    | (at_builtin; refine wpList_app _ rfl _ _ 22 rfl 5 i0 _ .u8 Try.underlying22 HZ.out.1 HZ.out.2.1 HZ.out.2.2.1 (by rw [HZ.out.2.2.2]; omega) rfl rfl rfl (Ow.empty _ _ _) HP.out (by omega) (by simp) ?_; intro A1 cap1 w1 ho hb1; have HO := Lib.hid ho; have HB := Lib.hid hb1; clear ho hb1))
  go_ret
  refine ⟨_, _, _, rfl, by simpa using HO.out, ?_⟩
  exact ((Below.refl _ _).alloc (Nat.le_refl _) _).trans HB.out

/-- A slice of bytes from block lo on, below which nothing has turned. -/
def AddPost (lo : Nat) (w : World) (zs : List Int) (e : Ending) (w' : World) : Prop :=
  ∃ A n cap, e = .returned (.slice A n cap) ∧ Ow 5 .u8 w' lo w'.heap.size A n cap zs ∧ Below lo w w'
theorem AddPost.intro {lo : Nat} {w w' : World} {zs : List Int} {A : Option Addr} {n cap hi : Nat} (h : Ow 5 .u8 w' lo hi A n cap zs) (hb : Below lo w w') : AddPost lo w zs (.returned (.slice A n cap)) w' :=
  ⟨A, n, cap, rfl, h.up, hb⟩
/-- A varint that is being written: what is there, and what is to come. -/
def Way (lo : Nat) (w wr : World) (zs : List Int) (N : Nat) (b x : Value) : Prop :=
  ∃ A m cap l y, b = .slice A m cap ∧ x = .int .i64 (y : Nat) ∧ l ++ enc y = zs ++ enc N ∧ Ow 5 .u8 wr lo wr.heap.size A m cap l ∧ Below lo w wr ∧ y ≤ N ∧ lo ≤ wr.heap.size
theorem way_step {l zs : List Int} {y N : Nat} (h : l ++ enc y = zs ++ enc N) (hy : 128 ≤ y) : (l ++ [((y % 128 + 128 : Nat) : Int)]) ++ enc (y / 128) = zs ++ enc N := by
  rw [← h, enc_more hy]; simp
theorem way_last {l zs : List Int} {y N : Nat} (h : l ++ enc y = zs ++ enc N) (hy : y < 128) : l ++ [(y : Int)] = zs ++ enc N := by
  rw [← h, enc_less hy]
theorem way_len {l zs : List Int} {y N : Nat} (h : l ++ enc y = zs ++ enc N) (hN : N ≤ 1000000000000) : l.length ≤ zs.length + 5 := by
  have e := congrArg List.length h
  rw [List.length_append, List.length_append] at e
  have := enc_pos y
  have := enc_len6 hN
  omega
theorem below_push {lo : Nat} {w wr w' : World} {o : Obj} (h : Below lo w wr) (hl : lo ≤ wr.heap.size) (hb : Below lo (wr.alloc o) w') : Below lo w w' := (h.alloc hl o).trans hb

theorem or128 (x : Int) (h0 : 0 ≤ x) (h1 : x < 128) : bits .or .i64 x 128 = x + 128 := by
  obtain ⟨k, rfl⟩ := Int.eq_ofNat_of_zero_le h0
  have e : (k ||| 128) = k + 128 := by
    have := Nat.two_pow_add_eq_or_of_lt (show k < 2 ^ 7 by omega) 1
    rw [Nat.or_comm]
    simpa [Nat.add_comm] using this.symm
  show IntKind.i64.wrap ((BitVec.ofInt 64 (k : Int) ||| BitVec.ofInt 64 128).toNat : Int) = _
  rw [BitVec.toNat_or]
  have e1 : (BitVec.ofInt 64 (k : Int)).toNat = k := by rw [BitVec.ofInt_natCast, BitVec.toNat_ofNat]; omega
  have e2 : (BitVec.ofInt 64 128).toNat = 128 := by rfl
  rw [e1, e2, e, IntKind.wrap_i64]
  omega
theorem and127 (x : Int) : bits .and .i64 x 127 = x % 128 := i64_and127 x

end Go.Proofs.Ytbkdbdhbmabgcaa.uvs
end
