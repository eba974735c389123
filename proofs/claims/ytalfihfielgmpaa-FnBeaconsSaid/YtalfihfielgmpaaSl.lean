/- Slices of integers in memory: what a slice that is read holds (Rd), what a slice of the call's own holds (Ow), and how both are kept from world to world. Condition: none. -/
import Derived.Test.YtalfihfielgmpaaKit
import Derived.OwnWalk
import Derived.Below
import Derived.Laws.OwnMore
import Derived.Maps.AppendAt
import Derived.Deep.AppendLies
import Derived.Deep.Draws
import Derived.RegionTactic
import Derived.Laws.MakeOwn
import Derived.Laws.Entries
import Derived.OpenShut
namespace Go.Proofs.Ytalfihfielgmpaa.sl
open Go.RowKit

def Wf (k : IntKind) (zs : List Int) : Prop := ∀ z ∈ zs, (Lit.int k z).wf = true
theorem Wf.nil (k : IntKind) : Wf k [] := fun _ h => by cases h
theorem Wf.append {k : IntKind} {a b : List Int} (h : Wf k a) (g : Wf k b) : Wf k (a ++ b) := fun z hz => by
  rcases List.mem_append.1 hz with hz | hz
  · exact h z hz
  · exact g z hz
theorem Wf.one {k : IntKind} {x : Int} (h : (Lit.int k x).wf = true) : Wf k [x] := fun z hz => by
  have : z = x := by simpa using hz
  subst this; exact h
theorem Wf.left {k : IntKind} {a b : List Int} (h : Wf k (a ++ b)) : Wf k a := fun z hz => h z (List.mem_append_left _ hz)
theorem Wf.right {k : IntKind} {a b : List Int} (h : Wf k (a ++ b)) : Wf k b := fun z hz => h z (List.mem_append_right _ hz)
theorem Wf.drop {k : IntKind} {a : List Int} (h : Wf k a) (i : Nat) : Wf k (a.drop i) := fun z hz => h z (List.mem_of_mem_drop hz)
theorem Wf.take {k : IntKind} {a : List Int} (h : Wf k a) (i : Nat) : Wf k (a.take i) := fun z hz => h z (List.mem_of_mem_take hz)
theorem Wf.getD {k : IntKind} {a : List Int} (h : Wf k a) {i : Nat} (hi : i < a.length) : (Lit.int k (a.getD i 0)).wf = true := by
  rw [List.getD_eq_getElem?_getD, List.getElem?_eq_getElem hi]; exact h _ (List.getElem_mem hi)
theorem Wf.u8 {a : List Int} (h : Wf .u8 a) : ∀ z ∈ a, 0 ≤ z ∧ z ≤ 255 := fun z hz => by
  have := bounds_u8 (h z hz); omega
theorem Wf.of_u8 {a : List Int} (h : ∀ z ∈ a, 0 ≤ z ∧ z ≤ 255) : Wf .u8 a := fun z hz => WalkArith.wf_u8 (by have := h z hz; omega)
theorem Wf.i64 {a : List Int} (h : Wf .i64 a) : ∀ z ∈ a, -9223372036854775808 ≤ z ∧ z ≤ 9223372036854775807 := fun z hz => by
  have := bounds_i64 (h z hz); omega
theorem Wf.of_i64 {a : List Int} (h : ∀ z ∈ a, -9223372036854775808 ≤ z ∧ z ≤ 9223372036854775807) : Wf .i64 a := fun z hz => WalkArith.wf_i64 (by have := h z hz; omega)

/-- Only blocks from lo to below hi of what was there may have been written. -/
structure Tch (lo hi : Nat) (w w' : World) : Prop where
  os : w'.os = w.os
  tape : w'.tape = w.tape
  output : w'.output = w.output
  size : w.heap.size ≤ w'.heap.size
  block : ∀ k, k < w.heap.size → (k < lo ∨ hi ≤ k) → w'.heap[k]? = w.heap[k]?
theorem Tch.refl (lo hi : Nat) (w : World) : Tch lo hi w w := ⟨rfl, rfl, rfl, Nat.le_refl _, fun _ _ _ => rfl⟩
theorem Tch.below {lo hi B : Nat} {w w' : World} (h : Tch lo hi w w') (hB : B ≤ lo) (hs : B ≤ w.heap.size) : Below B w w' :=
  ⟨h.os, h.tape, h.output, h.size, fun k hk => h.block k (by omega) (Or.inl (by omega))⟩

/-- A slice of numbers that is read: its address is looked at only where there is an element. -/
def Rd (k : IntKind) (w : World) (lo hi : Nat) (A : Option Addr) (n cap : Nat) (zs : List Int) : Prop :=
  zs.length = n ∧ n ≤ cap ∧ cap ≤ maxLen ∧ hi ≤ w.heap.size ∧ Wf k zs ∧ (0 < n → ∃ b off, A = some ⟨b, off, none⟩ ∧ lo ≤ b ∧ b < hi ∧ ∀ i, i < n → w.cell? ⟨b, off + i, none⟩ = some (.int k (zs.getD i 0)))
/-- A slice of numbers that the call itself has made. -/
def Ow (E : TypeId) (k : IntKind) (w : World) (lo hi : Nat) (A : Option Addr) (n cap : Nat) (zs : List Int) : Prop :=
  w.ownsRow lo E 1 (.slice A n cap) n (zs.map (Value.int k)) ∧ Wf k zs ∧ hi ≤ w.heap.size ∧ ∀ g o, A = some ⟨g, o, none⟩ → g < hi

section
variable {k : IntKind} {w w' : World} {lo hi n cap : Nat} {A : Option Addr} {zs : List Int} {E : TypeId}

theorem Rd.len (h : Rd k w lo hi A n cap zs) : zs.length = n := h.1
theorem Rd.cap_ (h : Rd k w lo hi A n cap zs) : n ≤ cap ∧ cap ≤ 9223372036854775807 := ⟨h.2.1, by have := h.2.2.1; unfold maxLen at this; omega⟩
theorem Rd.hi_ (h : Rd k w lo hi A n cap zs) : hi ≤ w.heap.size := h.2.2.2.1
theorem Rd.wf (h : Rd k w lo hi A n cap zs) : Wf k zs := h.2.2.2.2.1
theorem Rd.at_ (h : Rd k w lo hi A n cap zs) {i : Nat} (hi' : i < n) : ∃ b off, A = some ⟨b, off, none⟩ ∧ lo ≤ b ∧ b < hi ∧ w.cell? ⟨b, off + i, none⟩ = some (.int k (zs.getD i 0)) := by
  obtain ⟨b, off, e, h1, h2, h3⟩ := h.2.2.2.2.2 (by omega)
  exact ⟨b, off, e, h1, h2, h3 i hi'⟩
theorem Rd.same (h : Rd k w lo hi A n cap zs) (hs : w.heap.size ≤ w'.heap.size) (hb : ∀ b, lo ≤ b → b < hi → w'.heap[b]? = w.heap[b]?) : Rd k w' lo hi A n cap zs := by
  obtain ⟨h1, h2, h3, h4, h5, h6⟩ := h
  refine ⟨h1, h2, h3, by omega, h5, fun hn => ?_⟩
  obtain ⟨b, off, e, g1, g2, g3⟩ := h6 hn
  exact ⟨b, off, e, g1, g2, fun i hi => (World.cell?_of_block (w := w) (hb b g1 g2)).trans (g3 i hi)⟩
theorem Rd.below (h : Rd k w lo hi A n cap zs) (hb : Below w.heap.size w w') : Rd k w' lo hi A n cap zs :=
  h.same hb.size fun b _ hlt => hb.block b (by have := h.hi_; omega)
theorem Rd.tch (h : Rd k w lo hi A n cap zs) {l r : Nat} (hb : Tch l r w w') (hd : hi ≤ l ∨ r ≤ lo) : Rd k w' lo hi A n cap zs :=
  h.same hb.size fun b h1 h2 => hb.block b (by have := h.hi_; omega) (by omega)
theorem Rd.wide (h : Rd k w lo hi A n cap zs) : Rd k w 0 w.heap.size A n cap zs := by
  obtain ⟨h1, h2, h3, h4, h5, h6⟩ := h
  refine ⟨h1, h2, h3, Nat.le_refl _, h5, fun hn => ?_⟩
  obtain ⟨b, off, e, g1, g2, g3⟩ := h6 hn
  exact ⟨b, off, e, by omega, by omega, g3⟩
theorem Rd.nil (k : IntKind) (w : World) (A : Option Addr) (cap lo hi : Nat) (hc : cap ≤ maxLen) (hh : hi ≤ w.heap.size) : Rd k w lo hi A 0 cap [] :=
  ⟨rfl, by omega, hc, hh, Wf.nil k, fun h => absurd h (by omega)⟩
/-- A cut of a slice that is read. -/
theorem Rd.cut (h : Rd k w lo hi A n cap zs) (i j c : Nat) (A' : Option Addr) (hA : i < j → A' = A.map (·.add i)) (hij : i ≤ j) (hj : j ≤ n) (hc : j - i ≤ c) (hcm : c ≤ maxLen) :
    Rd k w lo hi A' (j - i) c ((zs.drop i).take (j - i)) := by
  obtain ⟨h1, h2, h3, h4, h5, h6⟩ := h
  refine ⟨by simp; omega, hc, hcm, h4, (h5.drop i).take _, fun hn => ?_⟩
  obtain ⟨b, off, rfl, g1, g2, g3⟩ := h6 (by omega)
  refine ⟨b, off + i, ?_, g1, g2, fun m hm => ?_⟩
  · rw [hA (by omega)]; simp [Addr.add]
  · rw [Nat.add_assoc, g3 (i + m) (by omega)]
    congr 2
    rw [List.getD_eq_getElem?_getD, List.getD_eq_getElem?_getD, List.getElem?_take, if_pos hm, List.getElem?_drop]

theorem Ow.len (h : Ow E k w lo hi A n cap zs) : zs.length = n := by have := h.1.1; simpa using this
theorem Ow.wf (h : Ow E k w lo hi A n cap zs) : Wf k zs := h.2.1
theorem Ow.hi_ (h : Ow E k w lo hi A n cap zs) : hi ≤ w.heap.size := h.2.2.1
theorem Ow.form (h : Ow E k w lo hi A n cap zs) : (A = none ∧ n = 0 ∧ cap = 0) ∨ ∃ g cur, A = some ⟨g, 0, none⟩ ∧ lo ≤ g ∧ g < hi ∧ w.heap[g]? = some (.cells cur E (0, 0)) ∧ n ≤ cap ∧ cap ≤ maxLen ∧ cur.size = cap ∧ cur.toList.take n = zs.map (Value.int k) := by
  rcases h.1.2 with ⟨e, h0⟩ | ⟨g, c, cur, e, h1, h2, h3, h4, h5, h6⟩
  · injection e with e1 e2 e3
    exact Or.inl ⟨e1, e2, e3⟩
  · injection e with e1 e2 e3
    subst e3
    exact Or.inr ⟨g, cur, e1, h1, h.2.2.2 g 0 e1, h2, h3, h4, by simpa using h5, by simpa using h6⟩
theorem Ow.rd (h : Ow E k w lo hi A n cap zs) : Rd k w lo hi A n cap zs := by
  have hl := h.len
  rcases h.form with ⟨rfl, rfl, rfl⟩ | ⟨g, cur, rfl, h1, h2, h3, h4, h5, h6, h7⟩
  · exact ⟨hl, Nat.le_refl _, by unfold maxLen; omega, h.hi_, h.wf, fun h => absurd h (by omega)⟩
  · refine ⟨hl, h4, h5, h.hi_, h.wf, fun _ => ⟨g, 0, rfl, h1, h2, fun i hi' => ?_⟩⟩
    have hc := h.1.cellAt i (by simpa using hi')
    rw [Nat.zero_add, hc]
    rw [List.getElem?_map, List.getD_eq_getElem?_getD, List.getElem?_eq_getElem (show i < zs.length by omega)]
    rfl
theorem Ow.free (h : Ow E k w lo hi A n cap zs) {b off : Nat} (e : A = some ⟨b, off, none⟩) (i : Nat) : w.frozen? ⟨b, i, none⟩ = false := by
  rcases h.form with ⟨rfl, _, _⟩ | ⟨g, cur, rfl, h1, h2, h3, h4⟩
  · cases e
  · injection e with e; injection e with e _; subst e
    simp [World.frozen?, h3]
theorem Ow.same (h : Ow E k w lo hi A n cap zs) (hs : w.heap.size ≤ w'.heap.size) (hb : ∀ b, lo ≤ b → b < hi → w'.heap[b]? = w.heap[b]?) : Ow E k w' lo hi A n cap zs := by
  obtain ⟨⟨h1, h2⟩, h3, h4, h5⟩ := h
  refine ⟨⟨h1, ?_⟩, h3, by omega, h5⟩
  rcases h2 with h2 | ⟨g, c, cur, e, g1, g2, g3⟩
  · exact Or.inl h2
  · injection e with e1 e2 e3
    refine Or.inr ⟨g, c, cur, by rw [e1, e3], g1, ?_, g3⟩
    rw [hb g g1 (h5 g 0 e1)]; exact g2
theorem Ow.below (h : Ow E k w lo hi A n cap zs) (hb : Below w.heap.size w w') : Ow E k w' lo hi A n cap zs :=
  h.same hb.size fun b _ hlt => hb.block b (by have := h.hi_; omega)
theorem Ow.tch (h : Ow E k w lo hi A n cap zs) {l r : Nat} (hb : Tch l r w w') (hd : hi ≤ l ∨ r ≤ lo) : Ow E k w' lo hi A n cap zs :=
  h.same hb.size fun b h1 h2 => hb.block b (by have := h.hi_; omega) (by omega)
theorem Ow.of_own {v : Value} (h : w.ownsRow lo E 1 v n (zs.map (Value.int k))) (hw : Wf k zs) : ∃ A cap, v = .slice A n cap ∧ Ow E k w lo w.heap.size A n cap zs := by
  rcases h.2 with ⟨rfl, rfl⟩ | ⟨g, c, cur, rfl, h1, h2, h3⟩
  · exact ⟨none, 0, rfl, h, hw, Nat.le_refl _, fun _ _ e => by cases e⟩
  · exact ⟨_, c, rfl, h, hw, Nat.le_refl _, fun b o e => by injection e with e; injection e with e _; subst e; exact lt_of_block h2⟩
/-- A new row that is written out. -/
theorem Ow.lit (w : World) (cs : Array Value) (zs : List Int) (hcs : cs.toList = zs.map (Value.int k)) (hw : Wf k zs) (hl : zs.length ≤ maxLen) (hn : cs.size = n) :
    Ow E k (w.alloc (.cells cs E)) w.heap.size (w.alloc (.cells cs E)).heap.size (some ⟨w.heap.size, 0, none⟩) n n zs := by
  have hz : cs.size = zs.length := by have := congrArg List.length hcs; simpa using this
  have := World.ownsRow_lit (e := E) (size := 1) (base := w.heap.size) w cs n (Nat.le_refl _) (by omega) (by omega)
  rw [hcs] at this
  exact ⟨this, hw, Nat.le_refl _, fun g o e => by injection e with e; injection e with e _; subst e; simp⟩
end

/-- A slice that came in. -/
theorem Rd.of_row {k : IntKind} {w : World} {A : Option Addr} {len cap : Nat} {zs : List Int} (h : kit.IsRow k w A len cap zs) : ∃ ys, Rd k w 0 w.heap.size A len cap ys := by
  rcases h with ⟨rfl, rfl, rfl, rfl⟩ | ⟨x, rfl, hl, hm, hz, hc, hw⟩
  · exact ⟨[], Rd.nil k w none 0 0 w.heap.size (by unfold maxLen; omega) (Nat.le_refl _)⟩
  · refine ⟨zs.take len, by simp; omega, hl, hm, Nat.le_refl _, Wf.take hw len, fun hn => ?_⟩
    obtain ⟨b, off, rfl, hcell⟩ := ints_at hc (by omega)
    have e0 := hcell 0 (by omega)
    have hb : b < w.heap.size := by
      rcases Nat.lt_or_ge b w.heap.size with h1 | h1
      · exact h1
      · exfalso
        have : w.heap[b]? = none := Array.getElem?_eq_none h1
        simp [World.cell?, this] at e0
    refine ⟨b, off, rfl, by omega, hb, fun i hi => ?_⟩
    rw [hcell i (by omega), List.getD_eq_getElem?_getD, List.getD_eq_getElem?_getD, List.getElem?_take, if_pos hi]

/-- What a function hands back that makes a slice of numbers. -/
def SlPost (E : TypeId) (k : IntKind) (w : World) (zs : List Int) (e : Ending) (w' : World) : Prop :=
  ∃ A n cap, e = .returned (.slice A n cap) ∧ Ow E k w' w.heap.size w'.heap.size A n cap zs ∧ Below w.heap.size w w'

/-- The words of the guide for a source of an append. -/
def Reads (w : World) (B size : Nat) (A : Option Addr) (n : Nat) (xs : List Value) : Prop :=
  xs.length = n * size ∧ (0 < n → ∃ ad, A = some ad ∧ ad.block < B ∧ ∀ j u, xs[j]? = some u → w.cell? (ad.add j) = some u)
theorem Rd.reads {k : IntKind} {w : World} {lo hi n cap : Nat} {A : Option Addr} {zs : List Int} (h : Rd k w lo hi A n cap zs) : Reads w hi 1 A n (zs.map (Value.int k)) := by
  refine ⟨by simpa using h.len, fun hn => ?_⟩
  obtain ⟨b, off, e, h1, h2, h3⟩ := h.2.2.2.2.2 hn
  refine ⟨_, e, h2, fun j u hu => ?_⟩
  have hj : j < n := by
    have := (List.getElem?_eq_some_iff.1 hu).1
    simp at this; have := h.len; omega
  have e2 : (⟨b, off, none⟩ : Addr).add j = ⟨b, off + j, none⟩ := by
    unfold Addr.add; split <;> simp_all
  rw [e2, h3 j hj]
  rw [List.getElem?_map, List.getElem?_eq_getElem (show j < zs.length by rw [h.len]; exact hj)] at hu
  rw [List.getD_eq_getElem?_getD, List.getElem?_eq_getElem (show j < zs.length by rw [h.len]; exact hj)]
  simpa using hu
theorem one_cells (k : IntKind) (zs : List Int) : ∀ u ∈ zs.map (Value.int k), u.oneCell' = true := by
  intro u hu
  obtain ⟨z, _, rfl⟩ := List.mem_map.1 hu
  rfl
end Go.Proofs.Ytalfihfielgmpaa.sl
