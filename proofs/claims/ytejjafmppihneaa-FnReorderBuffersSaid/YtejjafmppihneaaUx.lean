/- Values of any type as data: what is read of one (R), what one of the call's own owns, block by block (O), how great it is, what marking it leaves; slices of numbers and slices of whatever elements. Condition: none. -/
import Derived.Test.YtejjafmppihneaaMra
import Derived.Test.YtejjafmppihneaaRgk
import Derived.Test.YtejjafmppihneaaOm
namespace Go.Proofs.Ytejjafmppihneaa.ux
open Go.RowKit sl harn bx
set_option linter.unusedVariables false

/-- A type's values as data. -/
structure Rep (α : Type) where
  n : Nat
  R : World → Nat → Nat → Value → α → Prop
  O : World → List Nat → Value → α → Prop
  sz : α → Nat
  tot : α → Nat
  mkx : Int → α → α
  pos : 0 < n
  len : ∀ {w lo hi v x}, R w lo hi v x → v.cells.size = n
  one : ∀ {w lo hi v x}, R w lo hi v x → v.cells.all (·.oneCell') = true
  same : ∀ {w w' lo hi v x}, R w lo hi v x → w.heap.size ≤ w'.heap.size → (∀ b, lo ≤ b → b < hi → w'.heap[b]? = w.heap[b]?) → R w' lo hi v x
  hi_ : ∀ {w lo hi v x}, R w lo hi v x → hi ≤ w.heap.size
  osame : ∀ {w w' fp v x}, O w fp v x → w.heap.size ≤ w'.heap.size → (∀ b, b ∈ fp → w'.heap[b]? = w.heap[b]?) → O w' fp v x
  rd : ∀ {w fp lo hi v x}, O w fp v x → (∀ b, b ∈ fp → lo ≤ b ∧ b < hi) → hi ≤ w.heap.size → R w lo hi v x
  lt : ∀ {w fp v x}, O w fp v x → ∀ b, b ∈ fp → b < w.heap.size
  nd : ∀ {w fp v x}, O w fp v x → fp.Nodup
  tle : ∀ x, tot x ≤ 64 * sz x + 64

/-- A value that is read. -/
def RR {α : Type} (S : Rep α) (w : World) (lo hi : Nat) (v : Value) (x : α) : Prop := S.R w lo hi v x
/-- A value of the call's own: all its blocks lie from lo to below hi. -/
def OO {α : Type} (S : Rep α) (w : World) (lo hi : Nat) (fp : List Nat) (v : Value) (x : α) : Prop := S.O w fp v x ∧ (∀ b, b ∈ fp → lo ≤ b ∧ b < hi) ∧ hi ≤ w.heap.size
section
variable {α : Type} {S : Rep α} {w w' : World} {lo hi : Nat} {v : Value} {x : α} {fp : List Nat}
theorem RR.same (h : RR S w lo hi v x) (hs : w.heap.size ≤ w'.heap.size) (hb : ∀ b, lo ≤ b → b < hi → w'.heap[b]? = w.heap[b]?) : RR S w' lo hi v x := S.same h hs hb
theorem RR.hi_ (h : RR S w lo hi v x) : hi ≤ w.heap.size := S.hi_ h
theorem RR.below (h : RR S w lo hi v x) (hb : Below w.heap.size w w') : RR S w' lo hi v x := h.same hb.size fun b _ hlt => hb.block b (by have := h.hi_; omega)
theorem RR.ks (h : RR S w lo hi v x) (hb : stw.KS fp w w') (hd : ∀ b, lo ≤ b → b < hi → b ∉ fp) : RR S w' lo hi v x := h.same hb.size fun b h1 h2 => hb.block b (by have := h.hi_; omega) (hd b h1 h2)
theorem OO.same (h : OO S w lo hi fp v x) (hs : w.heap.size ≤ w'.heap.size) (hb : ∀ b, lo ≤ b → b < hi → w'.heap[b]? = w.heap[b]?) : OO S w' lo hi fp v x :=
  ⟨S.osame h.1 hs fun b hm => hb b (h.2.1 b hm).1 (h.2.1 b hm).2, h.2.1, by have := h.2.2; omega⟩
theorem OO.hi_ (h : OO S w lo hi fp v x) : hi ≤ w.heap.size := h.2.2
theorem OO.below (h : OO S w lo hi fp v x) (hb : Below w.heap.size w w') : OO S w' lo hi fp v x := h.same hb.size fun b _ hlt => hb.block b (by have := h.hi_; omega)
theorem OO.ks {f2 : List Nat} (h : OO S w lo hi fp v x) (hb : stw.KS f2 w w') (hd : ∀ b, b ∈ fp → b ∉ f2) : OO S w' lo hi fp v x :=
  ⟨S.osame h.1 hb.size fun b hm => hb.block b (S.lt h.1 b hm) (hd b hm), h.2.1, by have := h.2.2; have := hb.size; omega⟩
theorem OO.rd (h : OO S w lo hi fp v x) : RR S w lo hi v x := S.rd h.1 h.2.1 h.2.2
theorem OO.inn (h : OO S w lo hi fp v x) : ∀ b, b ∈ fp → lo ≤ b ∧ b < hi := h.2.1
end
/-- What a function hands back that copies. -/
def ToPost {α : Type} (S : Rep α) (x : α) (w : World) (e : Ending) (w' : World) : Prop := ∃ v fp, e = .returned v ∧ OO S w' w.heap.size w'.heap.size fp v x ∧ Below w.heap.size w w'
theorem ToPost.parts {α : Type} {S : Rep α} {x : α} {w w' : World} {e : Ending} (h : ToPost S x w e w') : ∃ v fp, e = .returned v ∧ OO S w' w.heap.size w'.heap.size fp v x ∧ Below w.heap.size w w' := h
/-- What marking leaves. -/
def MkPost {α : Type} (S : Rep α) (x' : α) (k : Int) (lo hi : Nat) (fp : List Nat) (v : Value) (w : World) (e : Ending) (w' : World) : Prop := e = .returned (.int .i64 k) ∧ OO S w' lo hi fp v x' ∧ stw.KS fp w w'
theorem MkPost.parts {α : Type} {S : Rep α} {x' : α} {k : Int} {lo hi : Nat} {fp : List Nat} {v : Value} {w w' : World} {e : Ending} (h : MkPost S x' k lo hi fp v w e w') : e = .returned (.int .i64 k) ∧ OO S w' lo hi fp v x' ∧ stw.KS fp w w' := h
/-- What remains of a bound behind t: -1 if it does not suffice. -/
def ZPost (left : Int) (t : Nat) (w : World) (e : Ending) (w' : World) : Prop := ∃ r : Int, e = .returned (.int .i64 r) ∧ ((r = -1 ∧ left < t) ∨ (r = left - t ∧ (t : Int) ≤ left)) ∧ Below w.heap.size w w'
theorem ZPost.parts {left : Int} {t : Nat} {w w' : World} {e : Ending} (h : ZPost left t w e w') : ∃ r : Int, e = .returned (.int .i64 r) ∧ ((r = -1 ∧ left < t) ∨ (r = left - t ∧ (t : Int) ≤ left)) ∧ Below w.heap.size w w' := h

/-- The block of a slice's address. -/
def blks : Option Addr → List Nat
  | none => []
  | some a => [a.block]
theorem ks_below {w w' : World} (h : Below w.heap.size w w') (F : List Nat) : stw.KS F w w' := ⟨h.os, h.tape, h.output, h.size, fun k hk _ => h.block k hk⟩
theorem ks_more {F G : List Nat} {w w' : World} (h : stw.KS F w w') (hs : ∀ b, b ∈ F → b ∈ G) : stw.KS G w w' := ⟨h.os, h.tape, h.output, h.size, fun k h1 h2 => h.block k h1 fun hm => h2 (hs k hm)⟩
theorem ks_set {F : List Nat} {w : World} {b : Nat} (hb : b ∈ F) (i : Nat) (v : Value) : stw.KS F w (w.setCell ⟨b, i, none⟩ v) :=
  ⟨rfl, rfl, rfl, by simp [World.setCell], fun k h1 h2 => Below.heap_setCell _ _ _ _ (fun e => h2 (e ▸ hb))⟩
theorem ks_bel {F : List Nat} {w w' : World} {B : Nat} (h : stw.KS F w w') (hF : ∀ b, b ∈ F → B ≤ b) (hB : B ≤ w.heap.size) : Below B w w' := h.below hF hB

section nums
variable {E : TypeId} {k : IntKind} {w w' : World} {n c lo hi : Nat} {A : Option Addr} {zs : List Int}
theorem ow_as (h : Ow E k w lo hi A n c zs) (hs : w.heap.size ≤ w'.heap.size) (hb : ∀ b, b ∈ blks A → w'.heap[b]? = w.heap[b]?) : Ow E k w' lo hi A n c zs := by
  obtain ⟨⟨h1, h2⟩, h3, h4, h5⟩ := h
  refine ⟨⟨h1, ?_⟩, h3, by omega, h5⟩
  rcases h2 with h2 | ⟨g, c, cur, e, g1, g2, g3⟩
  · exact Or.inl h2
  · injection e with e1 e2 e3
    refine Or.inr ⟨g, c, cur, by rw [e1, e3], g1, ?_, g3⟩
    rw [hb g (by rw [e1]; exact List.mem_singleton.2 rfl)]; exact g2
theorem ow_to {lo2 hi2 : Nat} (h : Ow E k w lo hi A n c zs) (hb : ∀ b, b ∈ blks A → lo2 ≤ b ∧ b < hi2) (hh : hi2 ≤ w.heap.size) : Ow E k w lo2 hi2 A n c zs := by
  obtain ⟨⟨h1, h2⟩, h3, h4, h5⟩ := h
  refine ⟨⟨h1, ?_⟩, h3, hh, fun g o e => (hb g (by rw [e]; exact List.mem_singleton.2 rfl)).2⟩
  rcases h2 with h2 | ⟨g, c, cur, e, g1, g2, g3⟩
  · exact Or.inl h2
  · injection e with e1 e2 e3
    exact Or.inr ⟨g, c, cur, by rw [e1, e3], (hb g (by rw [e1]; exact List.mem_singleton.2 rfl)).1, g2, g3⟩
theorem ow_in (h : Ow E k w lo hi A n c zs) : ∀ b, b ∈ blks A → lo ≤ b ∧ b < hi := by
  intro b hb
  rcases h.form with ⟨rfl, _⟩ | ⟨g, cur, rfl, h1, h2, _⟩
  · cases hb
  · obtain rfl : b = g := by simpa [blks] using hb
    exact ⟨h1, h2⟩
open om in
theorem om_as (h : Om E k w lo hi A n c zs) (hs : w.heap.size ≤ w'.heap.size) (hb : ∀ b, b ∈ blks A → w'.heap[b]? = w.heap[b]?) : Om E k w' lo hi A n c zs := by
  obtain ⟨h1, h2, h3, h4, h5, h6⟩ := h
  refine ⟨h1, h2, h3, h4, by omega, ?_⟩
  rcases h6 with h6 | ⟨g, cur, fz, e, g1, g2, g3, g4⟩
  · exact .inl h6
  · exact .inr ⟨g, cur, fz, e, g1, g2, (hb g (by rw [e]; exact List.mem_singleton.2 rfl)).trans g3, g4⟩
open om in
theorem om_to {lo2 hi2 : Nat} (h : Om E k w lo hi A n c zs) (hb : ∀ b, b ∈ blks A → lo2 ≤ b ∧ b < hi2) (hh : hi2 ≤ w.heap.size) : Om E k w lo2 hi2 A n c zs := by
  obtain ⟨h1, h2, h3, h4, h5, h6⟩ := h
  refine ⟨h1, h2, h3, h4, hh, ?_⟩
  rcases h6 with h6 | ⟨g, cur, fz, e, g1, g2, g3, g4⟩
  · exact .inl h6
  · have := hb g (by rw [e]; exact List.mem_singleton.2 rfl)
    exact .inr ⟨g, cur, fz, e, this.1, this.2, g3, g4⟩
open om in
theorem om_in (h : Om E k w lo hi A n c zs) : ∀ b, b ∈ blks A → lo ≤ b ∧ b < hi := by
  intro b hb
  rcases h.2.2.2.2.2 with ⟨rfl, _⟩ | ⟨g, cur, fz, rfl, h1, h2, _⟩
  · cases hb
  · obtain rfl : b = g := by simpa [blks] using hb
    exact ⟨h1, h2⟩
open om in
theorem om_wide (h : Om E k w lo hi A n c zs) : Om E k w 0 w.heap.size A n c zs := om_to h (fun b hb => by have := om_in h b hb; have := h.hi_; omega) (Nat.le_refl _)
end nums
theorem sl_one (A : Option Addr) (n c : Nat) : (Value.slice A n c).cells.all (·.oneCell') = true := by
  have h := all_oneCell_toArray (cs := [.slice A n c]) (by intro v hv; simp only [List.mem_singleton] at hv; subst hv; rfl)
  exact h
/-- Slices of numbers. -/
def num (E : TypeId) (k : IntKind) : Rep (List Int) where
  n := 1
  R := fun w lo hi v zs => ∃ A n c, v = .slice A n c ∧ Rd k w lo hi A n c zs
  O := fun w fp v zs => ∃ A n c, v = .slice A n c ∧ om.Om E k w 0 w.heap.size A n c zs ∧ fp = blks A
  sz := fun zs => zs.length
  tot := fun zs => zs.length
  mkx := fun q zs => marks k q zs.length
  pos := Nat.one_pos
  len := fun ⟨A, n, c, e, h⟩ => by subst e; rfl
  one := fun ⟨A, n, c, e, h⟩ => by subst e; exact sl_one _ _ _
  same := fun ⟨A, n, c, e, h⟩ hs hb => ⟨A, n, c, e, h.same hs hb⟩
  hi_ := fun ⟨A, n, c, e, h⟩ => h.hi_
  osame := fun ⟨A, n, c, e, h, hf⟩ hs hb => ⟨A, n, c, e, om_wide (om_as h hs (fun b hm => hb b (hf ▸ hm))), hf⟩
  rd := fun ⟨A, n, c, e, h, hf⟩ hb hh => ⟨A, n, c, e, (om_to h (fun b hm => hb b (hf ▸ hm)) hh).rd⟩
  lt := fun ⟨A, n, c, e, h, hf⟩ b hm => (om_in h b (hf ▸ hm)).2
  nd := fun ⟨A, n, c, e, h, hf⟩ => by rw [hf]; cases A <;> simp [blks]
  tle := fun zs => by show zs.length ≤ 64 * zs.length + 64; omega
theorem num_om {E : TypeId} {k : IntKind} {w : World} {n c lo hi : Nat} {A : Option Addr} {zs : List Int} (h : om.Om E k w lo hi A n c zs) : OO (num E k) w lo hi (blks A) (.slice A n c) zs :=
  ⟨⟨A, n, c, rfl, om_wide h, rfl⟩, om_in h, h.hi_⟩
theorem num_of {E : TypeId} {k : IntKind} {w : World} {n c lo hi : Nat} {A : Option Addr} {zs : List Int} (h : Ow E k w lo hi A n c zs) : OO (num E k) w lo hi (blks A) (.slice A n c) zs := num_om (om.of_ow h)
theorem num_rd {E : TypeId} {k : IntKind} {w : World} {n c lo hi : Nat} {A : Option Addr} {zs : List Int} (h : Rd k w lo hi A n c zs) : RR (num E k) w lo hi (.slice A n c) zs := ⟨A, n, c, rfl, h⟩
theorem num_open {E : TypeId} {k : IntKind} {w : World} {lo hi : Nat} {fp : List Nat} {v : Value} {zs : List Int} (h : OO (num E k) w lo hi fp v zs) : ∃ A n c, v = .slice A n c ∧ om.Om E k w lo hi A n c zs ∧ fp = blks A := by
  obtain ⟨⟨A, n, c, e, ho, hf⟩, h2, h3⟩ := h
  exact ⟨A, n, c, e, om_to ho (fun b hm => h2 b (hf ▸ hm)) h3, hf⟩

/-- An element with its blocks. -/
structure Ue (α : Type) where
  fp : List Nat
  v : Value
  x : α
section rows
variable {α : Type} (S : Rep α)
def flt (es : List (Ue α)) : List Value := es.flatMap fun e => e.v.cells.toList
def fps (es : List (Ue α)) : List Nat := es.flatMap (·.fp)
def mks (mk : Int → α → α) (tot : α → Nat) : Int → List α → List α
  | _, [] => []
  | q, x :: r => mk q x :: mks mk tot (q + tot x) r
def sumT (tot : α → Nat) (l : List α) : Nat := (l.map tot).sum
def rowR (w : World) (lo hi : Nat) (v : Value) (xs : List α) : Prop :=
  ∃ A n c, v = .slice A n c ∧ xs.length = n ∧ n ≤ c ∧ c ≤ maxLen ∧ hi ≤ w.heap.size ∧ (0 < n → ∃ b off, A = some ⟨b, off, none⟩ ∧ lo ≤ b ∧ b < hi ∧ ∀ i x, xs[i]? = some x → ∃ u, w.rangeAt b (off + i * S.n) u.cells.toList ∧ S.R w lo hi u x)
def rowO (T : TypeId) (w : World) (fp : List Nat) (v : Value) (xs : List α) : Prop :=
  ∃ (A : Option Addr) (n c : Nat) (es : List (Ue α)), v = .slice A n c ∧ es.map (·.x) = xs ∧ (∀ e ∈ es, S.O w e.fp e.v e.x ∧ e.v.cells.size = S.n ∧ e.v.cells.all (·.oneCell') = true) ∧ fp.Nodup ∧
    ((A = none ∧ n = 0 ∧ c = 0 ∧ es = [] ∧ fp = []) ∨ ∃ g cur, A = some ⟨g, 0, none⟩ ∧ w.heap[g]? = some (.cells cur T (0, 0)) ∧ es.length = n ∧ n ≤ c ∧ c ≤ maxLen ∧ cur.size = c * S.n ∧ cur.toList.take (n * S.n) = flt es ∧ fp = g :: fps es)
end rows
theorem flt_append {α : Type} (a b : List (Ue α)) : flt (a ++ b) = flt a ++ flt b := by simp [flt]
theorem fps_append {α : Type} (a b : List (Ue α)) : fps (a ++ b) = fps a ++ fps b := by simp [fps]
theorem flt_len {α : Type} {s : Nat} : ∀ (es : List (Ue α)), (∀ e ∈ es, e.v.cells.size = s) → (flt es).length = es.length * s
  | [], _ => by simp [flt]
  | e :: r, h => by
    have h1 : flt (e :: r) = e.v.cells.toList ++ flt r := rfl
    rw [h1, List.length_append, flt_len r (fun f hf => h f (List.mem_cons_of_mem _ hf)), List.length_cons, Nat.add_mul, Nat.one_mul, Nat.add_comm]
    have := h e List.mem_cons_self
    simp; omega
theorem mem_fps {α : Type} {es : List (Ue α)} {e : Ue α} (he : e ∈ es) {b : Nat} (hb : b ∈ e.fp) : b ∈ fps es := List.mem_flatMap.2 ⟨e, he, hb⟩
theorem sumT_snoc {α : Type} (tot : α → Nat) (l : List α) (x : α) : sumT tot (l ++ [x]) = sumT tot l + tot x := by simp [sumT]
theorem sumT_cons {α : Type} (tot : α → Nat) (l : List α) (x : α) : sumT tot (x :: l) = tot x + sumT tot l := by simp [sumT]
theorem sumT_append {α : Type} (tot : α → Nat) (a b : List α) : sumT tot (a ++ b) = sumT tot a + sumT tot b := by simp [sumT]
theorem sumT_take {α : Type} (tot : α → Nat) (l : List α) (k : Nat) : sumT tot (l.take k) ≤ sumT tot l := by
  have := sumT_append tot (l.take k) (l.drop k)
  rw [List.take_append_drop] at this
  omega
theorem sumT_mem {α : Type} (tot : α → Nat) {l : List α} {x : α} (h : x ∈ l) : tot x ≤ sumT tot l := by
  induction l with
  | nil => cases h
  | cons a r ih =>
    rw [sumT_cons]
    rcases List.mem_cons.1 h with rfl | h
    · omega
    · have := ih h; omega
theorem sumT_le {α : Type} (tot sz : α → Nat) (h : ∀ x, tot x ≤ 64 * sz x + 64) : ∀ l : List α, sumT tot l ≤ 64 * (l.length + sumT sz l)
  | [] => by simp [sumT]
  | x :: r => by
    have := h x
    have := sumT_le tot sz h r
    rw [sumT_cons, sumT_cons, List.length_cons]; omega
theorem take_snoc {α : Type} {l : List α} {i : Nat} {x : α} (h : l[i]? = some x) : l.take (i + 1) = l.take i ++ [x] := by rw [List.take_add_one, h]; rfl
section marks
variable {α : Type} (mk : Int → α → α) (tot : α → Nat)
theorem mks_snoc (x : α) : ∀ (l : List α) (q : Int), mks mk tot q (l ++ [x]) = mks mk tot q l ++ [mk (q + sumT tot l) x]
  | [], q => by simp [mks, sumT]
  | y :: r, q => by
    have e : q + (tot y : Int) + (sumT tot r : Nat) = q + (sumT tot (y :: r) : Nat) := by rw [sumT_cons]; omega
    rw [List.cons_append, mks, mks_snoc x r, mks, e]
    rfl
theorem mks_len : ∀ (l : List α) (q : Int), (mks mk tot q l).length = l.length
  | [], _ => rfl
  | x :: r, q => by rw [mks, List.length_cons, mks_len r, List.length_cons]
theorem mks_at {l : List α} {j : Nat} {m : α} (h : l[j]? = some m) (q : Int) : (mks mk tot q l)[j]? = some (mk (q + (sumT tot (l.take j) : Nat)) m) := by
  induction l generalizing j q with
  | nil => simp at h
  | cons x r ih =>
    cases j with
    | zero =>
      have : x = m := by simpa using h
      subst this
      simp [mks, sumT]
    | succ j =>
      have h2 : r[j]? = some m := by simpa using h
      rw [mks, List.getElem?_cons_succ, ih h2, List.take_succ_cons, sumT_cons]
      congr 2
      omega
end marks
theorem rangeAt_same {w w' : World} {b o : Nat} {cs : List Value} (h : w.rangeAt b o cs) (hb : w'.heap[b]? = w.heap[b]?) : w'.rangeAt b o cs :=
  fun j v hj => (World.cell?_of_block (w := w) hb).trans (h j v hj)
/-- The cells of element number i. -/
theorem flt_at {α : Type} {s : Nat} : ∀ {es : List (Ue α)} {i : Nat} {e : Ue α}, (∀ e ∈ es, e.v.cells.size = s) → es[i]? = some e → ∀ {j : Nat} {v : Value}, e.v.cells.toList[j]? = some v → (flt es)[i * s + j]? = some v
  | f :: r, 0, e, hs, h, j, v, hv => by
    have : f = e := by simpa using h
    subst this
    have h1 : flt (f :: r) = f.v.cells.toList ++ flt r := rfl
    have hj : j < f.v.cells.toList.length := (List.getElem?_eq_some_iff.1 hv).1
    rw [h1, Nat.zero_mul, Nat.zero_add, List.getElem?_append_left hj]; exact hv
  | f :: r, i + 1, e, hs, h, j, v, hv => by
    have h2 : r[i]? = some e := by simpa using h
    have h1 : flt (f :: r) = f.v.cells.toList ++ flt r := rfl
    have hl : f.v.cells.toList.length = s := by simpa using hs f List.mem_cons_self
    have ih := flt_at (s := s) (es := r) (fun g hg => hs g (List.mem_cons_of_mem _ hg)) h2 hv
    rw [h1, List.getElem?_append_right (by rw [hl, Nat.add_mul, Nat.one_mul]; omega), hl, show (i + 1) * s + j - s = i * s + j by rw [Nat.add_mul, Nat.one_mul]; omega]
    exact ih
section
variable {α : Type} {S : Rep α} {T : TypeId} {w w' : World} {lo hi : Nat} {fp : List Nat} {v : Value} {xs : List α}
theorem rowR.same (h : rowR S w lo hi v xs) (hs : w.heap.size ≤ w'.heap.size) (hb : ∀ b, lo ≤ b → b < hi → w'.heap[b]? = w.heap[b]?) : rowR S w' lo hi v xs := by
  obtain ⟨A, n, c, e, h1, h2, h3, h4, h5⟩ := h
  refine ⟨A, n, c, e, h1, h2, h3, by omega, fun hn => ?_⟩
  obtain ⟨b, off, eA, g1, g2, g3⟩ := h5 hn
  refine ⟨b, off, eA, g1, g2, fun i x hx => ?_⟩
  obtain ⟨u, r1, r2⟩ := g3 i x hx
  exact ⟨u, rangeAt_same r1 (hb b g1 g2), S.same r2 hs hb⟩
theorem rowO.same (h : rowO S T w fp v xs) (hs : w.heap.size ≤ w'.heap.size) (hb : ∀ b, b ∈ fp → w'.heap[b]? = w.heap[b]?) : rowO S T w' fp v xs := by
  obtain ⟨A, n, c, es, e, hm, ho, hnd, h⟩ := h
  rcases h with ⟨rfl, rfl, rfl, rfl, rfl⟩ | ⟨g, cur, rfl, hg, h2, h3, h4, h5, h6, hf⟩
  · exact ⟨none, 0, 0, [], e, hm, fun _ h => (by cases h), hnd, .inl ⟨rfl, rfl, rfl, rfl, rfl⟩⟩
  · refine ⟨_, n, c, es, e, hm, fun f hf2 => ⟨S.osame (ho f hf2).1 hs fun b hbf => hb b (by rw [hf]; exact List.mem_cons_of_mem _ (mem_fps hf2 hbf)), (ho f hf2).2⟩, hnd, .inr ⟨g, cur, rfl, ?_, h2, h3, h4, h5, h6, hf⟩⟩
    rw [hb g (by rw [hf]; exact List.mem_cons_self)]; exact hg
theorem rowO.lt (h : rowO S T w fp v xs) : ∀ b, b ∈ fp → b < w.heap.size := by
  obtain ⟨A, n, c, es, e, hm, ho, hnd, h⟩ := h
  intro b hb
  rcases h with ⟨rfl, rfl, rfl, rfl, rfl⟩ | ⟨g, cur, rfl, hg, h2, h3, h4, h5, h6, hf⟩
  · cases hb
  · rw [hf] at hb
    rcases List.mem_cons.1 hb with rfl | hb
    · exact lt_of_block hg
    · obtain ⟨f, hf2, hbf⟩ := List.mem_flatMap.1 hb
      exact S.lt (ho f hf2).1 b hbf
theorem rowO.rd (h : rowO S T w fp v xs) (hb : ∀ b, b ∈ fp → lo ≤ b ∧ b < hi) (hh : hi ≤ w.heap.size) : rowR S w lo hi v xs := by
  obtain ⟨A, n, c, es, e, hm, ho, hnd, h⟩ := h
  rcases h with ⟨rfl, rfl, rfl, rfl, rfl⟩ | ⟨g, cur, rfl, hg, h2, h3, h4, h5, h6, hf⟩
  · exact ⟨none, 0, 0, e, by rw [← hm]; rfl, Nat.le_refl _, by unfold maxLen; omega, hh, fun h => absurd h (by omega)⟩
  · have hg1 := hb g (by rw [hf]; exact List.mem_cons_self)
    refine ⟨_, n, c, e, by rw [← hm]; simpa using h2, h3, h4, hh, fun hn => ⟨g, 0, rfl, hg1.1, hg1.2, fun i x hx => ?_⟩⟩
    rw [← hm, List.getElem?_map] at hx
    cases he : es[i]? with
    | none => rw [he] at hx; cases hx
    | some f =>
      rw [he] at hx
      obtain rfl : f.x = x := by simpa using hx
      have hfm := List.mem_of_getElem? he
      refine ⟨f.v, fun j u hu => ?_, S.rd (ho f hfm).1 (fun b hbf => hb b (by rw [hf]; exact List.mem_cons_of_mem _ (mem_fps hfm hbf))) hh⟩
      have h7 := flt_at (fun e he => (ho e he).2.1) he hu
      rw [← h6, List.getElem?_take] at h7
      split at h7
      · rw [Nat.zero_add]
        simp only [World.cell?, hg]
        simpa using h7
      · cases h7
end
/-- Slices of whatever elements; T: the elements' type. -/
def row {α : Type} (T : TypeId) (S : Rep α) : Rep (List α) where
  n := 1
  R := rowR S
  O := rowO S T
  sz := fun xs => xs.length + sumT S.sz xs
  tot := sumT S.tot
  mkx := mks S.mkx S.tot
  pos := Nat.one_pos
  len := fun ⟨A, n, c, e, h⟩ => by subst e; rfl
  one := fun ⟨A, n, c, e, h⟩ => by subst e; exact sl_one _ _ _
  same := rowR.same
  hi_ := fun ⟨A, n, c, e, h1, h2, h3, h4, _⟩ => h4
  osame := rowO.same
  rd := rowO.rd
  lt := rowO.lt
  nd := fun ⟨A, n, c, es, e, hm, ho, hnd, h⟩ => hnd
  tle := fun xs => by have := sumT_le S.tot S.sz S.tle xs; show sumT S.tot xs ≤ 64 * (xs.length + sumT S.sz xs) + 64; omega
theorem row_tot {α : Type} (T : TypeId) (S : Rep α) (xs : List α) : (row T S).tot xs ≤ 64 * (row T S).sz xs := sumT_le S.tot S.sz S.tle xs
section
variable {α : Type} {S : Rep α} {T : TypeId} {w w' : World} {lo hi : Nat} {fp : List Nat} {v : Value} {xs : List α}
/-- A slice that is read, opened. -/
theorem row_open (h : RR (row T S) w lo hi v xs) : ∃ A n c, v = .slice A n c ∧ xs.length = n ∧ n ≤ c ∧ c ≤ 9223372036854775807 := by
  obtain ⟨A, n, c, e, h1, h2, h3, _⟩ := h
  exact ⟨A, n, c, e, h1, h2, by unfold maxLen at h3; omega⟩
theorem row_at {A : Option Addr} {n c : Nat} (h : RR (row T S) w lo hi (.slice A n c) xs) {i : Nat} (hi' : i < n) : ∃ b off x u, A = some ⟨b, off, none⟩ ∧ xs[i]? = some x ∧ lo ≤ b ∧ b < hi ∧ w.rangeAt b (off + i * S.n) u.cells.toList ∧ RR S w lo hi u x := by
  obtain ⟨A', n', c', e, h1, h2, h3, h4, h5⟩ := h
  injection e with e1 e2 e3
  subst e1 e2 e3
  obtain ⟨b, off, eA, g1, g2, g3⟩ := h5 (by omega)
  have hx : xs[i]? = some xs[i] := List.getElem?_eq_getElem (by omega)
  obtain ⟨u, r1, r2⟩ := g3 i _ hx
  exact ⟨b, off, _, u, eA, hx, g1, g2, r1, r2⟩
end
end Go.Proofs.Ytejjafmppihneaa.ux
