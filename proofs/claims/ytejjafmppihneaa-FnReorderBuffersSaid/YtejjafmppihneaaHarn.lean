/- The harness functions of the exact laws over slices of numbers: the copy, the comparison, the marks. Condition: lengths up to 2^26. -/
import Derived.Test.YtejjafmppihneaaSl
import Derived.WalkKit
import Derived.ProofKit
import Derived.LoopTactic
import Derived.Deep.QuietTactic
import Derived.BigQuiet
import Derived.Outline
import Derived.Lib.Hide
namespace Go.Proofs.Ytejjafmppihneaa.harn
open Go.RowKit sl

theorem run_make1 {P : Program} (t e : TypeId) (i : TypeInfo) (z : Value) (ht : P.underlying t = some (.slice e)) (hi : P.info? e = some i) (hz : i.zero = some z) (hs : i.size = 1)
    (n : Nat) (hb8 : i.bytes ≤ 8) (hn : n ≤ 67108864) (w : World) :
    (Instr.makeSlice t (.int .i64 (n : Int)) (.int .i64 (n : Int))).run P w = .ok (.slice (some ⟨w.heap.size, 0, none⟩) n n) (w.alloc (.cells (madeCells z.cells n) e)) := by
  have hb : (i.bytes : Int) * (n : Int) ≤ 281474976710656 := by
    have h : ((i.bytes * n : Nat) : Int) ≤ 281474976710656 := by
      have h1 := Nat.mul_le_mul hb8 hn
      omega
    rwa [Int.natCast_mul] at h
  have hr := run_make (P := P) w t e i z ht hi hz .i64 .i64 n n (by omega) (by omega) hb (by omega)
  simp only [Int.toNat_natCast] at hr
  rw [hs, Nat.mul_one] at hr
  exact hr

theorem u8Info : (Try.prog.info? 5).map (fun i => (i.zero, i.size, i.bytes)) = some (some (.int .u8 0), 1, 1) := by kernel_rfl
theorem intInfo : (Try.prog.info? 3).map (fun i => (i.zero, i.size, i.bytes)) = some (some (.int .i64 0), 1, 8) := by kernel_rfl

theorem madeLt (z : Array Value) (n k : Nat) (h : k < n) : ∃ v, (madeCells z n)[k]? = some v := ⟨_, Array.getElem?_eq_getElem (by rw [size_madeCells]; exact h)⟩
/-- A copy that has come to k. -/
def Part (kd : IntKind) (E : TypeId) (w wr : World) (n k : Nat) (zs : List Int) : Prop :=
  ∃ cs, wr.heap[w.heap.size]? = some (.cells cs E (0, 0)) ∧ cs.size = n ∧ (∀ j, j < k → cs[j]? = some (.int kd (zs.getD j 0))) ∧ Below w.heap.size w wr
theorem Part.start (kd : IntKind) (E : TypeId) (w : World) (n : Nat) (zs : List Int) (z : Array Value) : Part kd E w (w.alloc (.cells (madeCells z n) E)) n 0 zs :=
  ⟨_, heap_alloc_new w _, size_madeCells z n, fun j h => absurd h (by omega), (Below.refl _ _).alloc (Nat.le_refl _) _⟩
theorem Part.cell {kd : IntKind} {E : TypeId} {w wr : World} {n k : Nat} {zs : List Int} (h : Part kd E w wr n k zs) (hk : k < n) : ∃ v, wr.cell? ⟨w.heap.size, k, none⟩ = some v := by
  obtain ⟨cs, h1, h2, _⟩ := h
  exact ⟨cs[k]'(by omega), by simp [World.cell?, h1]⟩
theorem Part.free {kd : IntKind} {E : TypeId} {w wr : World} {n k : Nat} {zs : List Int} (h : Part kd E w wr n k zs) (i : Nat) : wr.frozen? ⟨w.heap.size, i, none⟩ = false := by
  obtain ⟨cs, h1, _⟩ := h
  simp [World.frozen?, h1]
theorem Part.step {kd : IntKind} {E : TypeId} {w wr : World} {n k : Nat} {zs : List Int} (h : Part kd E w wr n k zs) (hk : k < n) : Part kd E w (wr.setCell ⟨w.heap.size, k, none⟩ (.int kd (zs.getD k 0))) n (k + 1) zs := by
  obtain ⟨cs, h1, h2, h3, h4⟩ := h
  refine ⟨cs.setIfInBounds k (.int kd (zs.getD k 0)), ?_, by simpa using h2, fun j hj => ?_, h4.setCell (Nat.le_refl _) _⟩
  · exact heap_setCell_same wr w.heap.size k cs E _ h1
  · rcases Nat.lt_or_ge j k with hlt | hge
    · rw [Array.getElem?_setIfInBounds_ne (by omega)]; exact h3 j hlt
    · have : j = k := by omega
      subst this
      rw [Array.getElem?_setIfInBounds_self_of_lt (by omega)]
theorem Part.done {kd : IntKind} {E : TypeId} {w wr : World} {n : Nat} {zs : List Int} (h : Part kd E w wr n n zs) (hl : zs.length = n) (hw : Wf kd zs) (hm : n ≤ maxLen) :
    SlPost E kd w zs (.returned (.slice (some ⟨w.heap.size, 0, none⟩) n n)) wr := by
  obtain ⟨cs, h1, h2, h3, h4⟩ := h
  have e : cs.toList = zs.map (Value.int kd) := by
    apply List.ext_getElem?
    intro i
    rw [Array.getElem?_toList, List.getElem?_map]
    rcases Nat.lt_or_ge i n with hi | hi
    · rw [h3 i hi, List.getElem?_eq_getElem (show i < zs.length by omega), List.getD_eq_getElem?_getD, List.getElem?_eq_getElem (show i < zs.length by omega)]
      rfl
    · rw [Array.getElem?_eq_none (by omega), List.getElem?_eq_none (by omega)]; rfl
  refine ⟨_, _, _, rfl, ⟨⟨by simpa using hl, Or.inr ⟨_, n, cs, rfl, Nat.le_refl _, h1, Nat.le_refl _, hm, by simpa using h2, ?_⟩⟩, hw, Nat.le_refl _, ?_⟩, h4⟩
  · rw [Nat.mul_one, ← e, List.take_of_length_le (by simp; omega)]
  · intro g o e; injection e with e; injection e with e _; subst e; exact lt_of_block h1
theorem rd_part {kd : IntKind} {E : TypeId} {w wr : World} {n k : Nat} {zs : List Int} {lo hi cap : Nat} {A : Option Addr} (r : Rd kd w lo hi A n cap zs) (h : Part kd E w wr n k zs) : Rd kd wr lo hi A n cap zs := by
  obtain ⟨cs, _, _, _, h4⟩ := h
  exact r.below h4

/-- The comparison says whether the two read alike. -/
def EqPost (zs ys : List Int) (w : World) (e : Ending) (w' : World) : Prop := e = .returned (.bool (decide (zs = ys))) ∧ Below w.heap.size w w'
theorem below_drews (w : World) (m : Nat) : Below w.heap.size w (w.drewN m) := ⟨rfl, rfl, rfl, Nat.le_refl _, fun _ _ => rfl⟩

theorem ne_at {zs ys : List Int} {k : Nat} (h : ¬ zs.getD k 0 = ys.getD k 0) : ¬ zs = ys := fun e => h (by rw [e])
theorem eq_all {zs ys : List Int} {n : Nat} (h1 : zs.length = n) (h2 : ys.length = n) (h : ∀ j, j < n → zs.getD j 0 = ys.getD j 0) : zs = ys := by
  apply List.ext_getElem (by omega)
  intro i hi hi2
  have := h i (by omega)
  simpa [List.getD_eq_getElem?_getD, hi, hi2] using this
theorem eq_true {zs ys : List Int} (h : zs = ys) : decide (zs = ys) = true := decide_eq_true h
theorem eq_false {zs ys : List Int} (h : ¬ zs = ys) : decide (zs = ys) = false := decide_eq_false h

/-- The marks: k, k + 1, .. as numbers of the kind. -/
def marks (kd : IntKind) (k : Int) (n : Nat) : List Int := (List.range n).map fun (j : Nat) => kd.wrap (k + j)
theorem marks_len (kd : IntKind) (k : Int) (n : Nat) : (marks kd k n).length = n := by simp [marks]
theorem marks_at (kd : IntKind) (k : Int) {n j : Nat} (h : j < n) : (marks kd k n).getD j 0 = kd.wrap (k + j) := by
  simp [marks, List.getD_eq_getElem?_getD, h]
/-- A marking that has come to i. -/
def Marked (kd : IntKind) (E : TypeId) (w wr : World) (lo hi : Nat) (A : Option Addr) (n cap : Nat) (k : Int) (i : Nat) : Prop :=
  ∃ ys, Ow E kd wr lo hi A n cap ys ∧ (∀ j, j < i → ys.getD j 0 = kd.wrap (k + j)) ∧ Tch lo hi w wr
theorem Marked.step {kd : IntKind} {E : TypeId} {w wr : World} {lo hi n cap : Nat} {k : Int} {i b : Nat} (h : Marked kd E w wr lo hi (some ⟨b, 0, none⟩) n cap k i) (hi' : i < n)
    (hw : (Lit.int kd (kd.wrap (k + i))).wf = true) : Marked kd E w (wr.setCell ⟨b, i, none⟩ (.int kd (kd.wrap (k + i)))) lo hi (some ⟨b, 0, none⟩) n cap k (i + 1) := by
  obtain ⟨ys, h1, h2, h3⟩ := h
  have hl := h1.len
  have hs := h1.1.stored i (.int kd (kd.wrap (k + i)))
  have e : (ys.map (Value.int kd)).set i (.int kd (kd.wrap (k + i))) = (ys.set i (kd.wrap (k + i))).map (Value.int kd) := by rw [List.map_set]
  have hb : lo ≤ b ∧ b < hi := by
    rcases h1.form with ⟨h, _⟩ | ⟨g, cur, h, g1, g2, _⟩
    · cases h
    · injection h with h; injection h with h _; omega
  refine ⟨ys.set i (kd.wrap (k + i)), ⟨?_, ?_, ?_, h1.2.2.2⟩, fun j hj => ?_, ?_⟩
  · rw [← e]; exact hs.1
  · intro z hz
    rcases List.mem_or_eq_of_mem_set hz with hz | hz
    · exact h1.wf z hz
    · rw [hz]; exact hw
  · have := h1.hi_; simpa [World.setCell] using this
  · rw [List.getD_eq_getElem?_getD]
    by_cases hij : j = i
    · subst hij
      rw [List.getElem?_set_self (by omega)]; rfl
    · rw [List.getElem?_set_ne (by omega), ← List.getD_eq_getElem?_getD]
      exact h2 j (by omega)
  · refine ⟨h3.os, h3.tape, h3.output, by simpa [World.setCell] using h3.size, fun q hq hd => ?_⟩
    rw [Below.heap_setCell _ _ _ _ (by show q ≠ b; omega)]
    exact h3.block q hq hd
theorem Marked.start {kd : IntKind} {E : TypeId} {w : World} {lo hi n cap : Nat} {A : Option Addr} {zs : List Int} (h : Ow E kd w lo hi A n cap zs) (k : Int) : Marked kd E w w lo hi A n cap k 0 :=
  ⟨zs, h, fun j hj => absurd hj (by omega), Tch.refl _ _ _⟩
theorem Marked.done {kd : IntKind} {E : TypeId} {w wr : World} {lo hi n cap : Nat} {A : Option Addr} {k : Int} (h : Marked kd E w wr lo hi A n cap k n) : Ow E kd wr lo hi A n cap (marks kd k n) ∧ Tch lo hi w wr := by
  obtain ⟨ys, h1, h2, h3⟩ := h
  have : ys = marks kd k n := eq_all h1.len (marks_len kd k n) fun j hj => by rw [h2 j hj, marks_at kd k hj]
  rw [← this]
  exact ⟨h1, h3⟩
def MarkPost (E : TypeId) (kd : IntKind) (w : World) (lo hi : Nat) (A : Option Addr) (n cap : Nat) (k : Int) (e : Ending) (w' : World) : Prop :=
  e = .returned (.int .i64 (k + n)) ∧ Ow E kd w' lo hi A n cap (marks kd k n) ∧ Tch lo hi w w'
theorem wf_u8_wrap (x : Int) : (Lit.int .u8 (IntKind.u8.wrap x)).wf = true := wf_wrap .u8 x
theorem ret_num {a b : Int} (h : a = b) : Ending.returned (.int .i64 a) = .returned (.int .i64 b) := by rw [h]

theorem wf_i64_wrap (x : Int) : (Lit.int .i64 (IntKind.i64.wrap x)).wf = true := wf_wrap .i64 x

end Go.Proofs.Ytejjafmppihneaa.harn
