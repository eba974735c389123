/- Byte strings with a length in front, program and specification. Condition: lengths up to 2^26. -/
import Derived.Test.YtalfihfielgmpaaUv3
namespace Go.Proofs.Ytalfihfielgmpaa.uvs
open Go.RowKit sl enc harn

/-- What ReadBytes hands back. -/
def rb (b : List Int) (off most : Int) : List Int × Int × Bool :=
  let t := rv b off
  if t.2.2 = true ∧ t.1 ≤ most ∧ t.1 ≤ b.length - t.2.1 then ((b.drop t.2.1.toNat).take t.1.toNat, t.2.1 + t.1, true) else ([], 0, false)
theorem rb_yes {b : List Int} {off most m nx : Int} (h : rv b off = (m, nx, true)) (h1 : m ≤ most) (h2 : m ≤ b.length - nx) : rb b off most = ((b.drop nx.toNat).take m.toNat, nx + m, true) := by
  unfold rb; rw [h]; exact if_pos ⟨rfl, h1, h2⟩
theorem rb_no {b : List Int} {off most m nx : Int} {ok : Bool} (h : rv b off = (m, nx, ok)) (h1 : ¬ (ok = true ∧ m ≤ most ∧ m ≤ b.length - nx)) : rb b off most = ([], 0, false) := by
  unfold rb; rw [h]; exact if_neg h1
/-- A slice of bytes, a number and a bool. -/
def SlIBPost (E : TypeId) (k : IntKind) (w : World) (t : List Int × Int × Bool) (e : Ending) (w' : World) : Prop :=
  ∃ A n cap, e = .returned (.tuple #[.slice A n cap, .int .i64 t.2.1, .bool t.2.2]) ∧ Ow E k w' w.heap.size w'.heap.size A n cap t.1 ∧ Below w.heap.size w w'
theorem SlIBPost.no (E : TypeId) (k : IntKind) {w w1 : World} (hb : Below w.heap.size w w1) {t : List Int × Int × Bool} (ht : t = ([], 0, false)) :
    SlIBPost E k w t (.returned (.tuple #[.slice (some ⟨w1.heap.size, 0, none⟩) 0 0, .int .i64 0, .bool false])) (w1.alloc (.cells #[] E)) := by
  subst ht
  refine ⟨_, _, _, rfl, ?_, hb.alloc hb.size _⟩
  have h := (Ow.empty E k w1).down (lo2 := w.heap.size) hb.size
  simpa using h
theorem SlIBPost.parts {E : TypeId} {k : IntKind} {w : World} {t : List Int × Int × Bool} {e : Ending} {w' : World} (h : SlIBPost E k w t e w') {l : List Int} {i : Int} {b : Bool} (ht : t = (l, i, b)) :
    ∃ A n cap, e = .returned (.tuple #[.slice A n cap, .int .i64 i, .bool b]) ∧ Ow E k w' w.heap.size w'.heap.size A n cap l ∧ Below w.heap.size w w' := by
  subst ht; exact h
theorem RvPost.parts {zs : List Int} {off m nx : Int} {ok : Bool} (ht : rv zs off = (m, nx, ok)) {w : World} {e : Ending} {w' : World} (h : RvPost zs off w e w') : e = .returned (.tuple #[.int .i64 m, .int .i64 nx, .bool ok]) ∧ Below w.heap.size w w' := by
  unfold RvPost at h; rw [ht] at h; exact h
theorem rb_len {b : List Int} {off most : Int} {l : List Int} {i : Int} {ok : Bool} (h : rb b off most = (l, i, ok)) : l.length ≤ b.length := by
  unfold rb at h
  simp only at h
  split at h
  · injection h with h _; rw [← h]; simp; omega
  · injection h with h _; rw [← h]; simp
theorem split3 (zs : List Int) (off : Int) : ∃ m nx ok, rv zs off = (m, nx, ok) := ⟨_, _, _, rfl⟩

/-- A cut of a slice, run. -/
theorem cut_run {P : Program} (t E : TypeId) (i0 : TypeInfo) (hu : P.underlying t = some (.slice (P.elem t))) (hE : P.elem t = E) (hi : P.info? E = some i0) (hs : i0.size = 1) (A : Option Addr) (n cap : Nat) (i j : Int) (h0 : 0 ≤ i) (h1 : i ≤ j) (h2 : j ≤ cap) :
    ∃ A', (i < j → A' = A.map (·.add i.toNat)) ∧ ∀ W, (Instr.slice t (.slice A n cap) (some (.int .i64 i)) (some (.int .i64 j)) none).run P W = .ok (.slice A' (j.toNat - i.toNat) (cap - i.toNat)) W := by
  refine ⟨if cap = i.toNat then A else A.map (·.add i.toNat), fun h => if_neg (by omega), fun W => ?_⟩
  rw [run_slice_lh W t A n cap hu .i64 .i64 i j h0 h1 h2, hE]
  simp [sizeOf, typeInfo, hi, hs, go_sem, sliced]

theorem RvPost_eq {zs : List Int} {off m nx : Int} {ok : Bool} (h : rv zs off = (m, nx, ok)) : RvPost zs off = fun w e w' => e = .returned (.tuple #[.int .i64 m, .int .i64 nx, .bool ok]) ∧ Below w.heap.size w w' := by
  funext w e w'
  unfold RvPost
  rw [h]; rfl

end Go.Proofs.Ytalfihfielgmpaa.uvs
