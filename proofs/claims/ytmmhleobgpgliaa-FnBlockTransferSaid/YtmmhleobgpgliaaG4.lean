/- Merged texts of this seat. Uh: A row of the call's own with one element taken out: its cells written one by one, its slices changed beside it, and put back. Condition: none. | Uy: Slices of bytes as the harness copies, compares, marks and measures them. Condition: sizes up to 2^26. | Us22: Numbered frames and reorder buffers as values of the harness. Condition: none. | Rom: Reorder buffers as data: the window as a list of places, what is delivered, what is missing. Condition: none. | Rgp: A region that draws its order, in which one operation appends an element onto a row of the call's own, and that a chain of operations ends. Condition: the region's form. | Up: Appends onto rows of whatever elements, in the words of the harness (OO): one element of the call's own is appended out of a block made for it; as a step of a list, and of a region that draws its order. Condition: together at most 2^30 elements. | Rv: The window of a reorder buffer as it lies in memory: its cells; copying within a block, clearing; keeping a frame. Condition: none. | Ur: Regions that draw their order in which one operation appends an element of the call's own onto a row, in the words of the harness. Condition: the region's form. | Uw20: The harness over slices of slices of bytes. Condition: sizes up to 2^26. | Rv2: A window moved on, and what is ready delivered, by the program. Condition: what was delivered is short. | Rv3: What is ready is delivered by the program; the window of a valid buffer. Condition: what was delivered is short. | Qmm: Messages and queues as data: what each function of the chapter hands back; how a message lies in memory. Condition: none. -/
import Derived.Deep.Cut
import Derived.Laws.BytesArg
import Derived.Deep.QuietTactic
import Derived.StillTailTactics
import Derived.Laws.MakeOwn
import Derived.Test.YtmmhleobgpgliaaG1
import Derived.Test.YtmmhleobgpgliaaG2
import Derived.Test.YtmmhleobgpgliaaG3
section
namespace Go.Proofs.Ytmmhleobgpgliaa.ux
open Go.RowKit sl harn bx
set_option linter.unusedVariables false

/-- The row's block: element number l.length consists of the cells ce, whatever they are; the others are as told. -/
def Hole {α : Type} (S : Rep α) (T : TypeId) (w : World) (g n c : Nat) (l r : List (Ue α)) (ce : List Value) : Prop :=
  ∃ cur, w.heap[g]? = some (.cells cur T (0, 0)) ∧ n ≤ c ∧ c ≤ maxLen ∧ cur.size = c * S.n ∧ cur.toList.take (n * S.n) = flt l ++ ce ++ flt r ∧ ce.length = S.n ∧ l.length + r.length + 1 = n ∧
    ∀ e ∈ l ++ r, S.O w e.fp e.v e.x ∧ e.v.cells.size = S.n ∧ e.v.cells.all (·.oneCell') = true ∧ g ∉ e.fp
section
variable {α : Type} {S : Rep α} {T : TypeId} {w w' : World} {lo hi g n c : Nat} {l r : List (Ue α)} {ce : List Value}
theorem Hole.left (h : Hole S T w g n c l r ce) : (flt l).length = l.length * S.n := by
  obtain ⟨cur, _, _, _, _, _, _, _, h8⟩ := h
  exact flt_len l fun e he => (h8 e (List.mem_append_left _ he)).2.1
theorem Hole.cell (h : Hole S T w g n c l r ce) {j i : Nat} (hj : l.length = j) {v : Value} (hv : ce[i]? = some v) : w.cell? ⟨g, j * S.n + i, none⟩ = some v := by
  have hl := h.left
  subst hj
  obtain ⟨cur, h1, h2, h3, h4, h5, h6, h7, h8⟩ := h
  have hi : i < ce.length := (List.getElem?_eq_some_iff.1 hv).1
  have e : (cur.toList.take (n * S.n))[l.length * S.n + i]? = some v := by
    rw [h5, List.append_assoc, List.getElem?_append_right (by omega), hl, Nat.add_sub_cancel_left, List.getElem?_append_left hi]
    exact hv
  rw [List.getElem?_take] at e
  split at e
  · simp only [World.cell?, h1]
    simpa using e
  · cases e
theorem Hole.free (h : Hole S T w g n c l r ce) (i : Nat) : w.frozen? ⟨g, i, none⟩ = false := by
  obtain ⟨cur, h1, _⟩ := h
  simp [World.frozen?, h1]
theorem Hole.ks (h : Hole S T w g n c l r ce) {f : List Nat} (hb : stw.KS f w w') (hg : g ∉ f) (hd : ∀ e ∈ l ++ r, ∀ b, b ∈ e.fp → b ∉ f) : Hole S T w' g n c l r ce := by
  obtain ⟨cur, h1, h2, h3, h4, h5, h6, h7, h8⟩ := h
  exact ⟨cur, by rw [hb.block g (lt_of_block h1) hg]; exact h1, h2, h3, h4, h5, h6, h7, fun e he => ⟨S.osame (h8 e he).1 hb.size fun b hm => hb.block b (S.lt (h8 e he).1 b hm) (hd e he b hm), (h8 e he).2⟩⟩
theorem list_set_mid (a b cs : List Value) (i : Nat) (v : Value) (hi : i < cs.length) : (a ++ cs ++ b).set (a.length + i) v = a ++ cs.set i v ++ b := by
  rw [List.append_assoc, List.set_append_right _ _ (by omega), Nat.add_sub_cancel_left, List.set_append_left _ _ hi, ← List.append_assoc]
theorem Hole.set (h : Hole S T w g n c l r ce) {j i : Nat} (hj : l.length = j) (hi : i < S.n) (v : Value) : Hole S T (w.setCell ⟨g, j * S.n + i, none⟩ v) g n c l r (ce.set i v) := by
  have hl := h.left
  subst hj
  obtain ⟨cur, h1, h2, h3, h4, h5, h6, h7, h8⟩ := h
  refine ⟨cur.setIfInBounds (l.length * S.n + i) v, ?_, h2, h3, by simpa using h4, ?_, by simpa using h6, h7, fun e he => ⟨S.osame (h8 e he).1 (by simp [World.setCell]) fun b hm => Below.heap_setCell _ _ _ _ (fun e2 => (h8 e he).2.2.2 (by have e3 : b = g := e2; exact e3 ▸ hm)), (h8 e he).2⟩⟩
  · simp [World.setCell, Array.getElem?_modify, h1]
  · have hlt : l.length * S.n + i < n * S.n := by
      have : (l.length + 1) * S.n ≤ n * S.n := Nat.mul_le_mul_right _ (by omega)
      rw [Nat.add_mul, Nat.one_mul] at this
      omega
    rw [Array.toList_setIfInBounds, List.take_set, h5, ← hl]
    exact list_set_mid _ _ _ _ _ (by omega)
/-- One element taken out of a row of the call's own. -/
theorem row_hole {fp : List Nat} {v : Value} {xs : List α} {j : Nat} {x : α} (h : OO (row T S) w lo hi fp v xs) (hx : xs[j]? = some x) :
    ∃ (g n c : Nat) (l r : List (Ue α)) (u : Value) (f : List Nat), v = .slice (some ⟨g, 0, none⟩) n c ∧ l.length = j ∧ xs = l.map (·.x) ++ x :: r.map (·.x) ∧ Hole S T w g n c l r u.cells.toList ∧ OO S w lo hi f u x ∧
      fp = g :: (fps l ++ f ++ fps r) ∧ fp.Nodup ∧ u.cells.size = S.n ∧ u.cells.all (·.oneCell') = true := by
  obtain ⟨⟨A, n, c, es, e, hm, ho, hnd, h⟩, hin, hh⟩ := h
  have hjx : j < xs.length := (List.getElem?_eq_some_iff.1 hx).1
  have hje : j < es.length := by rw [← hm, List.length_map] at hjx; exact hjx
  have hes : es.take j ++ es[j] :: es.drop (j + 1) = es := by
    rw [← List.drop_eq_getElem_cons hje]; exact List.take_append_drop j es
  have hxe : es[j].x = x := by
    rw [← hm, List.getElem?_map, List.getElem?_eq_getElem hje] at hx
    simpa using hx
  have hmem : es[j] ∈ es := List.getElem_mem hje
  rcases h with ⟨_, _, _, h0, _⟩ | ⟨g, cur, rfl, hg, h2, h3, h4, h5, h6, hf⟩
  · rw [h0] at hje; simp at hje
  · have hfp : fps es = fps (es.take j) ++ es[j].fp ++ fps (es.drop (j + 1)) := by
      conv => lhs; rw [← hes]
      rw [fps_append, List.append_assoc]; rfl
    have hfl : flt es = flt (es.take j) ++ es[j].v.cells.toList ++ flt (es.drop (j + 1)) := by
      conv => lhs; rw [← hes]
      rw [flt_append, List.append_assoc]; rfl
    have hlj : (es.take j).length = j := by rw [List.length_take]; omega
    have hgn : g ∉ fps es := by rw [hf] at hnd; exact (List.nodup_cons.1 hnd).1
    refine ⟨g, n, c, es.take j, es.drop (j + 1), es[j].v, es[j].fp, e, hlj, ?_, ⟨cur, hg, h3, h4, h5, by rw [h6, hfl], by simpa using (ho _ hmem).2.1, by rw [hlj, List.length_drop]; omega, fun e he => ?_⟩, ⟨hxe ▸ (ho _ hmem).1, fun b hb => hin b (by rw [hf]; exact List.mem_cons_of_mem _ (mem_fps hmem hb)), hh⟩, by rw [hf, hfp], hnd, (ho _ hmem).2.1, (ho _ hmem).2.2⟩
    · rw [← hm]
      conv => lhs; rw [← hes]
      rw [List.map_append, List.map_cons, hxe]
    · have hm2 : e ∈ es := by
        rcases List.mem_append.1 he with he | he
        · exact List.mem_of_mem_take he
        · exact List.mem_of_mem_drop he
      exact ⟨(ho e hm2).1, (ho e hm2).2.1, (ho e hm2).2.2, fun hb => hgn (mem_fps hm2 hb)⟩
/-- It is put back, changed. -/
theorem Hole.close {fp f : List Nat} {u : Value} {x : α} (h : Hole S T w g n c l r u.cells.toList) (ho : S.O w f u x) (h1 : u.cells.all (·.oneCell') = true) (hf : fp = g :: (fps l ++ f ++ fps r)) (hnd : fp.Nodup) (hin : ∀ b, b ∈ fp → lo ≤ b ∧ b < hi) (hh : hi ≤ w.heap.size) :
    OO (row T S) w lo hi fp (.slice (some ⟨g, 0, none⟩) n c) (l.map (·.x) ++ x :: r.map (·.x)) := by
  obtain ⟨cur, h1', h2, h3, h4, h5, h6, h7, h8⟩ := h
  refine ⟨⟨_, n, c, l ++ ⟨f, u, x⟩ :: r, rfl, by simp, fun e he => ?_, hnd, .inr ⟨g, cur, rfl, h1', by simp; omega, h2, h3, h4, ?_, ?_⟩⟩, hin, hh⟩
  · rcases List.mem_append.1 he with he | he
    · have := h8 e (List.mem_append_left _ he); exact ⟨this.1, this.2.1, this.2.2.1⟩
    · rcases List.mem_cons.1 he with rfl | he
      · exact ⟨ho, by simpa using h6, h1⟩
      · have := h8 e (List.mem_append_right _ he); exact ⟨this.1, this.2.1, this.2.2.1⟩
  · rw [h5, flt_append, List.append_assoc]; rfl
  · rw [hf, fps_append, List.append_assoc]; rfl
/-- What the parts of a row without doubles do not share. -/
theorem hole_apart {fp f : List Nat} (hf : fp = g :: (fps l ++ f ++ fps r)) (hnd : fp.Nodup) : g ∉ f ∧ (∀ e ∈ l ++ r, ∀ b, b ∈ e.fp → b ∉ f) ∧ (∀ b, b ∈ f → b ∈ fp) ∧ g ∈ fp ∧ f.Nodup := by
  subst hf
  obtain ⟨h1, h2⟩ := List.nodup_cons.1 hnd
  obtain ⟨h3, h4, h5⟩ := List.nodup_append.1 h2
  obtain ⟨h6, h7, h8⟩ := List.nodup_append.1 h3
  refine ⟨fun h => h1 (by simp [h]), fun e he b hb hbf => ?_, fun b hb => by simp [hb], List.mem_cons_self, h7⟩
  rcases List.mem_append.1 he with he | he
  · exact h8 b (mem_fps he hb) b hbf rfl
  · exact h5 b (by simp [hbf]) b (mem_fps he hb) rfl
end
theorem OO.wide {α : Type} {S : Rep α} {w : World} {lo lo2 hi : Nat} {fp : List Nat} {v : Value} {x : α} (h : OO S w lo hi fp v x) (hl : lo2 ≤ lo) : OO S w lo2 w.heap.size fp v x := ⟨h.1, fun b hb => by have := h.2.1 b hb; have := h.2.2; omega, Nat.le_refl _⟩
theorem S_lt {α : Type} {S : Rep α} {w : World} {lo hi : Nat} {fp : List Nat} {v : Value} {x : α} (h : OO S w lo hi fp v x) : ∀ b, b ∈ fp → b < w.heap.size := fun b hb => by have := h.2.1 b hb; have := h.2.2; omega
theorem sumT_zero {α : Type} {f : α → Nat} (h : ∀ x, f x = 0) : ∀ l : List α, sumT f l = 0
  | [] => rfl
  | x :: r => by rw [sumT_cons, h x, sumT_zero h r]
theorem at_mid {α : Type} {mk : Int → α → α} {tot : α → Nat} {q : Int} {xs : List α} {j : Nat} {x : α} (hx : xs[j]? = some x) : (mks mk tot q (xs.take j) ++ xs.drop j)[j]? = some x := by
  have hj : j < xs.length := (List.getElem?_eq_some_iff.1 hx).1
  have hl : (mks mk tot q (xs.take j)).length = j := by rw [mks_len, List.length_take]; omega
  rw [List.getElem?_append_right (by omega), hl, Nat.sub_self, List.getElem?_drop, Nat.add_zero]
  exact hx
theorem round_mk {α : Type} {mk : Int → α → α} {tot : α → Nat} {q : Int} {xs a b : List α} {j : Nat} {x : α} (hx : xs[j]? = some x) (ha : a.length = j) (h : mks mk tot q (xs.take j) ++ xs.drop j = a ++ x :: b) :
    a ++ mk (q + (sumT tot (xs.take j) : Nat)) x :: b = mks mk tot q (xs.take (j + 1)) ++ xs.drop (j + 1) := by
  have hj : j < xs.length := (List.getElem?_eq_some_iff.1 hx).1
  have hl : (mks mk tot q (xs.take j)).length = j := by rw [mks_len, List.length_take]; omega
  obtain ⟨h1, h2⟩ := List.append_inj h (by omega)
  have h3 : xs.drop j = x :: xs.drop (j + 1) := by
    rw [List.drop_eq_getElem_cons hj]
    congr 1
    exact (List.getElem?_eq_some_iff.1 hx).2
  rw [h3] at h2
  injection h2 with _ h2
  rw [take_snoc hx, mks_snoc, h1, h2, List.append_assoc]
  rfl
theorem nd_apart {f g k : List Nat} (h : k = f ++ g) (hn : (f ++ g).Nodup) : ∀ b, b ∈ f → b ∈ g → False := fun b h1 h2 => (List.nodup_append.1 hn).2.2 b h1 b h2 rfl
/-- A row that is being filled: the blocks of what stands in it lie above it and below B. -/
def Grow {α : Type} (S : Rep α) (T : TypeId) (w : World) (g n B : Nat) (xs : List α) : Prop :=
  ∃ (cur : Array Value) (es : List (Ue α)), w.heap[g]? = some (.cells cur T (0, 0)) ∧ cur.size = n * S.n ∧ n ≤ maxLen ∧ es.map (·.x) = xs ∧ es.length ≤ n ∧ cur.toList.take (es.length * S.n) = flt es ∧ (fps es).Nodup ∧ g < B ∧ B ≤ w.heap.size ∧
    ∀ e ∈ es, S.O w e.fp e.v e.x ∧ e.v.cells.size = S.n ∧ e.v.cells.all (·.oneCell') = true ∧ ∀ b, b ∈ e.fp → g < b ∧ b < B
section
variable {α : Type} {S : Rep α} {T : TypeId} {w w' : World} {g n B : Nat} {xs : List α}
theorem Grow.start (S : Rep α) (T : TypeId) (w : World) {z : Array Value} (hn : n ≤ maxLen) (hz : z.size = n * S.n) : Grow S T (w.alloc (.cells z T)) w.heap.size n (w.alloc (.cells z T)).heap.size [] :=
  ⟨z, [], heap_alloc_new w _, hz, hn, rfl, Nat.zero_le _, by simp [flt], by simp [fps], by simp, Nat.le_refl _, fun _ h => by cases h⟩
theorem Grow.below (h : Grow S T w g n B xs) (hb : Below w.heap.size w w') : Grow S T w' g n B xs := by
  obtain ⟨cur, es, h1, h2, h3, h4, h5, h6, h7, hg, hB, h8⟩ := h
  exact ⟨cur, es, by rw [hb.block g (lt_of_block h1)]; exact h1, h2, h3, h4, h5, h6, h7, hg, by have := hb.size; omega, fun e he => ⟨S.osame (h8 e he).1 hb.size fun b hm => hb.block b (S.lt (h8 e he).1 b hm), (h8 e he).2⟩⟩
theorem Grow.there {k : Nat} (h : Grow S T w g n B xs) (hk : k < n) : w.there g (k * S.n) S.n := by
  obtain ⟨cur, es, h1, h2, h3, h4, h5, h6, h7, h8⟩ := h
  intro j hj
  have : (k + 1) * S.n ≤ n * S.n := Nat.mul_le_mul_right _ (by omega)
  rw [Nat.add_mul, Nat.one_mul] at this
  exact ⟨by simp only [World.cell?, h1]; simp; omega, by simp [World.frozen?, h1]⟩
theorem Grow.put {k lo hi : Nat} {f : List Nat} {u : Value} {x : α} {cs : List Value} (h : Grow S T w g n B xs) (hl : xs.length = k) (hk : k < n) (ho : OO S w lo hi f u x) (h1 : u.cells.all (·.oneCell') = true) (hc : u.cells.toList = cs) (hs : u.cells.size = S.n) (hB : B ≤ lo) :
    Grow S T (w.setCells g (k * S.n) cs) g n (w.setCells g (k * S.n) cs).heap.size (xs ++ [x]) := by
  subst hc
  obtain ⟨cur, es, h1', h2, h3, h4, h5, h6, h7, hg, hBs, h8⟩ := h
  have hek : es.length = k := by rw [← hl, ← h4, List.length_map]
  subst hek
  have hsz := mrw.size_setCells g u.cells.toList (es.length * S.n) w
  have hlen : u.cells.toList.length = S.n := by simpa using hs
  have hcap : es.length * S.n + S.n ≤ cur.size := by
    have := Nat.mul_le_mul_right S.n (show es.length + 1 ≤ n by omega)
    rw [Nat.add_mul, Nat.one_mul] at this
    omega
  have kp : ∀ {fp : List Nat} {v : Value} {y : α}, S.O w fp v y → (∀ b, b ∈ fp → g < b) → S.O (w.setCells g (es.length * S.n) u.cells.toList) fp v y := fun h hb => S.osame h (by omega) fun b hm => mrw.heap_setCells_ne (by have := hb b hm; omega) _ _ _
  have hfl : (flt es).length = es.length * S.n := flt_len es fun e he => (h8 e he).2.1
  refine ⟨_, es ++ [⟨f, u, x⟩], mrw.heap_setCells_same _ _ _ _ h1', by rw [mrw.lay_size]; exact h2, h3, by rw [List.map_append, h4]; rfl, by simp; omega, ?_, ?_, by omega, Nat.le_refl _, fun e he => ?_⟩
  · rw [mrw.lay_list _ _ _ (by rw [hlen]; exact hcap), hlen, h6, List.length_append, List.length_singleton, Nat.add_mul, Nat.one_mul, flt_append]
    have e1 : flt [(⟨f, u, x⟩ : Ue α)] = u.cells.toList := by simp [flt]
    have e2 : (flt es ++ u.cells.toList).length = es.length * S.n + S.n := by rw [List.length_append, hfl, hlen]
    rw [e1, List.take_append_of_le_length (by omega), List.take_of_length_le (by omega)]
  · rw [fps_append]
    have e1 : fps [(⟨f, u, x⟩ : Ue α)] = f := by simp [fps]
    rw [e1]
    refine List.nodup_append.2 ⟨h7, S.nd ho.1, fun b hb c hc2 => ?_⟩
    obtain ⟨e, he, hbe⟩ := List.mem_flatMap.1 hb
    have a1 := ((h8 e he).2.2.2 b hbe).2
    have a2 := (ho.2.1 c hc2).1
    omega
  · rw [hsz]
    rcases List.mem_append.1 he with he | he
    · exact ⟨kp (h8 e he).1 (fun b hb => ((h8 e he).2.2.2 b hb).1), (h8 e he).2.1, (h8 e he).2.2.1, fun b hb => by have := (h8 e he).2.2.2 b hb; omega⟩
    · obtain rfl : e = ⟨f, u, x⟩ := by simpa using he
      exact ⟨kp ho.1 (fun b hb => by have := (ho.2.1 b hb).1; omega), hs, h1, fun b hb => by have a1 := ho.2.1 b hb; have a2 := ho.2.2; omega⟩
theorem Grow.done (h : Grow S T w g n B xs) (hl : xs.length = n) : ∃ fp, OO (row T S) w g w.heap.size fp (.slice (some ⟨g, 0, none⟩) n n) xs := by
  obtain ⟨cur, es, h1, h2, h3, h4, h5, h6, h7, hg, hB, h8⟩ := h
  have hen : es.length = n := by rw [← hl, ← h4, List.length_map]
  have hgn : g ∉ fps es := fun hm => by
    obtain ⟨e, he, hbe⟩ := List.mem_flatMap.1 hm
    have := ((h8 e he).2.2.2 g hbe).1
    omega
  refine ⟨g :: fps es, ⟨_, n, n, es, rfl, h4, fun e he => ⟨(h8 e he).1, (h8 e he).2.1, (h8 e he).2.2.1⟩, List.nodup_cons.2 ⟨hgn, h7⟩, .inr ⟨g, cur, rfl, h1, hen, Nat.le_refl _, h3, h2, by rw [← hen]; exact h6, rfl⟩⟩, fun b hb => ?_, Nat.le_refl _⟩
  rcases List.mem_cons.1 hb with rfl | hb
  · exact ⟨Nat.le_refl _, lt_of_block h1⟩
  · obtain ⟨e, he, hbe⟩ := List.mem_flatMap.1 hb
    have := (h8 e he).2.2.2 b hbe
    omega
end
end Go.Proofs.Ytmmhleobgpgliaa.ux
end

section
namespace Go.Proofs.Ytmmhleobgpgliaa.ux
open Go.RowKit sl harn bx stw
set_option linter.unusedVariables false
set_option linter.unusedSimpArgs false

abbrev bytes : Rep (List Int) := num 5 .u8
theorem bytes_sl {w : World} {lo hi : Nat} {v : Value} {x : List Int} (h : bytes.R w lo hi v x) : ∃ A n c, v = .slice A n c := by
  obtain ⟨A, n, c, e, _⟩ := h
  exact ⟨A, n, c, e⟩
theorem bytes_slo {w : World} {fp : List Nat} {v : Value} {x : List Int} (h : bytes.O w fp v x) : ∃ A n c, v = .slice A n c := by
  obtain ⟨A, n, c, e, _⟩ := h
  exact ⟨A, n, c, e⟩
theorem bytes_tot (x : List Int) : bytes.tot x ≤ 64 * bytes.sz x := by show x.length ≤ 64 * x.length; omega
theorem rd_of {w : World} {lo hi n c : Nat} {A : Option Addr} {zs : List Int} (h : RR bytes w lo hi (.slice A n c) zs) : Rd .u8 w lo hi A n c zs := by
  obtain ⟨A', n', c', e, h⟩ := h
  injection e with e1 e2 e3
  subst e1 e2 e3
  exact h
theorem mem_one {b g : Nat} (h : b ∈ blks (some ⟨g, 0, none⟩)) : b = g := by simpa [blks] using h
theorem tch_ks {lo hi : Nat} {A : Option Addr} {w w' : World} (h : Tch lo hi w w') (hb : ∀ k, k ∉ blks A → w'.heap[k]? = w.heap[k]?) : KS (blks A) w w' := ⟨h.os, h.tape, h.output, h.size, fun k _ hk => hb k hk⟩
theorem toByteS {w : World} {lo hi : Nat} {v : Value} {x : List Int} (h : RR bytes w lo hi v x) (hs : bytes.sz x ≤ 67108864) : Calls Try.prog 38 #[v] w (ToPost bytes x w) := by
  obtain ⟨A, n, c, rfl, h⟩ := h
  refine (harn.toByteS x lo hi A n c w h (by rw [← h.len]; exact hs)).mono ?_
  rintro e w' ⟨A', n', c', rfl, ho, hb⟩
  exact ⟨_, _, rfl, num_of ho, hb⟩
theorem eqByteS {w : World} {lo hi lo2 hi2 : Nat} {v u : Value} {x : List Int} (h : RR bytes w lo hi v x) (h2 : RR bytes w lo2 hi2 u x) : Calls Try.prog 40 #[v, u] w (BPost true w) := by
  obtain ⟨A, n, c, rfl, h⟩ := h
  obtain ⟨A2, n2, c2, rfl, h2⟩ := h2
  exact harn.eqByteS_yes x lo hi lo2 hi2 A A2 n c n2 c2 w h h2
theorem markByteS {w : World} {lo hi : Nat} {fp : List Nat} {v : Value} {x : List Int} (q : Int) (h : OO bytes w lo hi fp v x) (hq : 0 ≤ q ∧ q + (bytes.tot x : Nat) ≤ 1099511627776) (hs : bytes.sz x ≤ 67108864) : Calls Try.prog 41 #[v, .int .i64 q] w (MkPost bytes (bytes.mkx q x) (q + (bytes.tot x : Nat)) lo hi fp v w) := by
  obtain ⟨A, n, c, rfl, ho, rfl⟩ := num_open h
  have hl : x.length = n := ho.len
  have hq2 : q + (x.length : Nat) ≤ 1099511627776 := hq.2
  refine (om.mark_om x lo hi A n c q w ho hq.1 (by omega) (by rw [← hl]; exact hs)).mono ?_
  rintro e w' ⟨rfl, ho', h1, ⟨h2, h3, h4⟩, h5⟩
  have e0 : bytes.mkx q x = marks .u8 q n := by show marks .u8 q x.length = _; rw [hl]
  refine ⟨by rw [show bytes.tot x = n from hl], ?_, ⟨h2, h3, h4, by omega, fun k hk hm => h5 k fun o e => hm (by rw [e]; exact List.mem_singleton.2 rfl)⟩⟩
  rw [e0]
  exact num_om ho'
theorem heldByteS {w : World} {lo hi : Nat} {v : Value} {x : List Int} (q : Int) (h : RR bytes w lo hi v (bytes.mkx q x)) (hq : 0 ≤ q ∧ q + (bytes.tot x : Nat) ≤ 1099511627776) (hs : bytes.sz x ≤ 67108864) : Calls Try.prog 85 #[v, .int .i64 q] w (NPost (q + (bytes.tot x : Nat)) w) := by
  obtain ⟨A, n, c, rfl, h⟩ := h
  have hl : x.length = n := by rw [← h.len]; exact (marks_len _ _ _).symm
  have hq2 : q + (x.length : Nat) ≤ 1099511627776 := hq.2
  have h' : Rd .u8 w lo hi A n c (marks .u8 q n) := by have hh : Rd .u8 w lo hi A n c (marks .u8 q x.length) := h; rwa [hl] at hh
  refine (harn.heldByteS lo hi A n c q w h' hq.1 (by omega) (by rw [← hl]; exact hs)).mono ?_
  rintro e w' ⟨rfl, rfl⟩
  exact ⟨by rw [show bytes.tot x = n from hl], Below.refl _ _⟩
theorem szByteS {w : World} {lo hi : Nat} {v : Value} {x : List Int} (left : Int) (hl : 0 ≤ left ∧ left ≤ 1048576) (h : RR bytes w lo hi v x) : Calls Try.prog 105 #[v, .int .i64 left] w (ZPost left (bytes.sz x) w) := by
  obtain ⟨A, n, c, rfl, h⟩ := h
  have hx : bytes.sz x = n := h.len
  rw [hx]
  have hc := h.cap_
  have hd : IntKind.i64.wrap (left - n) = left - n := IntWalk.i64_in _ (by omega)
  obtain ⟨h0, h1⟩ := hl
  clear h hx
  by_cases hle : (n : Int) ≤ left
  · have hq : ¬ left - n < 0 := by omega
    have HE := Lib.hid hle
    go_enter Try.func105, Try.ntmps105
    go_wp2
    go_ret
    exact ⟨left - n, rfl, .inr ⟨rfl, HE.out⟩, Below.refl _ _⟩
  · have hq : left - n < 0 := by omega
    have HE := Lib.hid (show left < (n : Int) by omega)
    go_enter Try.func105, Try.ntmps105
    go_wp2
    go_ret
    exact ⟨-1, rfl, .inl ⟨rfl, HE.out⟩, Below.refl _ _⟩
end Go.Proofs.Ytmmhleobgpgliaa.ux
end

section
namespace Go.Proofs.Ytmmhleobgpgliaa.ux
open Go.RowKit sl harn bx stw
set_option linter.unusedVariables false
set_option linter.unusedSimpArgs false

structure Nf where
  Seq : Int
  Body : List Int
abbrev nfV (x : Nf) (v0 : Value) : Value := .agg #[.int .i64 x.Seq, v0]
theorem oneNf (y0 : Int) (A1 : Option Addr) (n1 c1 : Nat) : (#[.int .i64 y0, .slice A1 n1 c1] : Array Value).all (·.oneCell') = true :=
  all_oneCell_toArray (cs := [.int .i64 y0, .slice A1 n1 c1]) (by intro v hv; simp only [List.mem_cons, List.not_mem_nil, or_false] at hv; rcases hv with rfl | rfl <;> rfl)
def nf : Rep Nf where
  n := 2
  R := fun w lo hi v x => hi ≤ w.heap.size ∧ ∃ (v0 : Value), v = nfV x v0 ∧ bytes.R w lo hi v0 x.Body
  O := fun w fp v x => ∃ (v0 : Value) (f0 : List Nat), v = nfV x v0 ∧ bytes.O w f0 v0 x.Body ∧ fp = f0 ∧ fp.Nodup
  sz := fun x => bytes.sz x.Body
  tot := fun x => 1 + bytes.tot x.Body
  mkx := fun q x => ⟨q, bytes.mkx (q + 1) x.Body⟩
  pos := by omega
  len := fun ⟨hh, v0, e, h0⟩ => by subst e; rfl
  one := fun ⟨hh, v0, e, h0⟩ => by
    subst e
    obtain ⟨A0, n0, c0, rfl⟩ := bytes_sl h0
    exact oneNf _ _ _ _
  same := fun ⟨hh, v0, e, h0⟩ hs hb => ⟨by omega, v0, e, bytes.same h0 hs hb⟩
  hi_ := fun h => h.1
  osame := fun ⟨v0, f0, e, h0, hf, hn⟩ hs hb => ⟨v0, f0, e, bytes.osame h0 hs (fun b hm => hb b (by rw [hf]; simp [hm])), hf, hn⟩
  rd := fun ⟨v0, f0, e, h0, hf, hn⟩ hb hh => ⟨hh, v0, e, bytes.rd h0 (fun b hm => hb b (by rw [hf]; simp [hm])) hh⟩
  lt := fun ⟨v0, f0, e, h0, hf, hn⟩ b hm => by
    rw [hf] at hm
    exact bytes.lt h0 b hm
  nd := fun ⟨v0, f0, e, h0, hf, hn⟩ => hn
  tle := fun x => by
    have t0 := bytes_tot x.Body
    show 1 + bytes.tot x.Body ≤ 64 * (bytes.sz x.Body) + 64
    omega
theorem nf_r {w : World} {lo hi : Nat} {v : Value} {x : Nf} (h : RR nf w lo hi v x) : ∃ (A0 : Option Addr) (n0 c0 : Nat), v = nfV x (.slice A0 n0 c0) ∧ RR bytes w lo hi (.slice A0 n0 c0) x.Body := by
  obtain ⟨hh, v0, e, h0⟩ := h
  obtain ⟨A0, n0, c0, rfl⟩ := bytes_sl h0
  exact ⟨A0, n0, c0, e, h0⟩
theorem nf_o {w : World} {lo hi : Nat} {fp : List Nat} {v : Value} {x : Nf} (h : OO nf w lo hi fp v x) : ∃ (A0 : Option Addr) (n0 c0 : Nat) (f0 : List Nat), v = nfV x (.slice A0 n0 c0) ∧ OO bytes w lo hi f0 (.slice A0 n0 c0) x.Body ∧ fp = f0 ∧ fp.Nodup := by
  obtain ⟨⟨v0, f0, e, h0, hf, hn⟩, hin, hh⟩ := h
  obtain ⟨A0, n0, c0, rfl⟩ := bytes_slo h0
  exact ⟨A0, n0, c0, f0, e, ⟨h0, fun b hm => hin b (by rw [hf]; simp [hm]), hh⟩, hf, hn⟩
theorem nf_mk {w : World} {lo hi : Nat} {x : Nf} {v0 : Value} {f0 : List Nat} (h0 : OO bytes w lo hi f0 v0 x.Body) (hn : (f0 : List Nat).Nodup) : OO nf w lo hi (f0) (nfV x v0) x :=
  ⟨⟨v0, f0, rfl, h0.1, rfl, hn⟩, fun b hb => by
    exact h0.2.1 b hb, h0.2.2⟩
theorem szNf : (Try.prog.info? 85).map (·.size) = some 2 := by kernel_rfl
def rowNf : Rep (List Nf) := row 85 nf
theorem rowNf_sl {w : World} {lo hi : Nat} {v : Value} {x : List Nf} (h : rowNf.R w lo hi v x) : ∃ A n c, v = .slice A n c := by
  obtain ⟨A, n, c, e, _⟩ := h
  exact ⟨A, n, c, e⟩
theorem rowNf_slo {w : World} {fp : List Nat} {v : Value} {x : List Nf} (h : rowNf.O w fp v x) : ∃ A n c, v = .slice A n c := by
  obtain ⟨A, n, c, es, e, _⟩ := h
  exact ⟨A, n, c, e⟩
theorem rowNf_tot (x : List Nf) : rowNf.tot x ≤ 64 * rowNf.sz x := row_tot _ _ x
structure Rob where
  Start : Int
  Pending : List Nf
abbrev robV (x : Rob) (v0 : Value) : Value := .agg #[.int .i64 x.Start, v0]
theorem oneRob (y0 : Int) (A1 : Option Addr) (n1 c1 : Nat) : (#[.int .i64 y0, .slice A1 n1 c1] : Array Value).all (·.oneCell') = true :=
  all_oneCell_toArray (cs := [.int .i64 y0, .slice A1 n1 c1]) (by intro v hv; simp only [List.mem_cons, List.not_mem_nil, or_false] at hv; rcases hv with rfl | rfl <;> rfl)
def rob : Rep Rob where
  n := 2
  R := fun w lo hi v x => hi ≤ w.heap.size ∧ ∃ (v0 : Value), v = robV x v0 ∧ rowNf.R w lo hi v0 x.Pending
  O := fun w fp v x => ∃ (v0 : Value) (f0 : List Nat), v = robV x v0 ∧ rowNf.O w f0 v0 x.Pending ∧ fp = f0 ∧ fp.Nodup
  sz := fun x => rowNf.sz x.Pending
  tot := fun x => 1 + rowNf.tot x.Pending
  mkx := fun q x => ⟨q, rowNf.mkx (q + 1) x.Pending⟩
  pos := by omega
  len := fun ⟨hh, v0, e, h0⟩ => by subst e; rfl
  one := fun ⟨hh, v0, e, h0⟩ => by
    subst e
    obtain ⟨A0, n0, c0, rfl⟩ := rowNf_sl h0
    exact oneRob _ _ _ _
  same := fun ⟨hh, v0, e, h0⟩ hs hb => ⟨by omega, v0, e, rowNf.same h0 hs hb⟩
  hi_ := fun h => h.1
  osame := fun ⟨v0, f0, e, h0, hf, hn⟩ hs hb => ⟨v0, f0, e, rowNf.osame h0 hs (fun b hm => hb b (by rw [hf]; simp [hm])), hf, hn⟩
  rd := fun ⟨v0, f0, e, h0, hf, hn⟩ hb hh => ⟨hh, v0, e, rowNf.rd h0 (fun b hm => hb b (by rw [hf]; simp [hm])) hh⟩
  lt := fun ⟨v0, f0, e, h0, hf, hn⟩ b hm => by
    rw [hf] at hm
    exact rowNf.lt h0 b hm
  nd := fun ⟨v0, f0, e, h0, hf, hn⟩ => hn
  tle := fun x => by
    have t0 := rowNf_tot x.Pending
    show 1 + rowNf.tot x.Pending ≤ 64 * (rowNf.sz x.Pending) + 64
    omega
theorem rob_r {w : World} {lo hi : Nat} {v : Value} {x : Rob} (h : RR rob w lo hi v x) : ∃ (A0 : Option Addr) (n0 c0 : Nat), v = robV x (.slice A0 n0 c0) ∧ RR rowNf w lo hi (.slice A0 n0 c0) x.Pending := by
  obtain ⟨hh, v0, e, h0⟩ := h
  obtain ⟨A0, n0, c0, rfl⟩ := rowNf_sl h0
  exact ⟨A0, n0, c0, e, h0⟩
theorem rob_o {w : World} {lo hi : Nat} {fp : List Nat} {v : Value} {x : Rob} (h : OO rob w lo hi fp v x) : ∃ (A0 : Option Addr) (n0 c0 : Nat) (f0 : List Nat), v = robV x (.slice A0 n0 c0) ∧ OO rowNf w lo hi f0 (.slice A0 n0 c0) x.Pending ∧ fp = f0 ∧ fp.Nodup := by
  obtain ⟨⟨v0, f0, e, h0, hf, hn⟩, hin, hh⟩ := h
  obtain ⟨A0, n0, c0, rfl⟩ := rowNf_slo h0
  exact ⟨A0, n0, c0, f0, e, ⟨h0, fun b hm => hin b (by rw [hf]; simp [hm]), hh⟩, hf, hn⟩
theorem rob_mk {w : World} {lo hi : Nat} {x : Rob} {v0 : Value} {f0 : List Nat} (h0 : OO rowNf w lo hi f0 v0 x.Pending) (hn : (f0 : List Nat).Nodup) : OO rob w lo hi (f0) (robV x v0) x :=
  ⟨⟨v0, f0, rfl, h0.1, rfl, hn⟩, fun b hb => by
    exact h0.2.1 b hb, h0.2.2⟩
theorem szRob : (Try.prog.info? 31).map (·.size) = some 2 := by kernel_rfl
end Go.Proofs.Ytmmhleobgpgliaa.ux
end

section
namespace Go.Proofs.Ytmmhleobgpgliaa.ro
open ux (Nf Rob)
open bs (nsq sqd)
set_option linter.unusedVariables false
set_option linter.unusedSimpArgs false

/-- What lies at the places of a window. -/
abbrev Win := List (Option (List Int))
def pend : Int → Win → List Nf
  | _, [] => []
  | s, none :: r => pend (s + 1) r
  | s, some b :: r => ⟨s % 4096, b⟩ :: pend (s + 1) r
def bods (ws : Win) : List (List Int) := ws.filterMap id
def rdy : Win → Nat
  | some _ :: r => rdy r + 1
  | _ => 0
def miss : Int → Win → List Int
  | _, [] => []
  | s, o :: r => if (o :: r).all (·.isNone) then [] else (if o.isNone then [s % 4096] else []) ++ miss (s + 1) r
/-- A window that is being changed. -/
structure St where
  s : Int
  ws : Win
  out : List (List Int)
def advS (t : St) (n : Nat) : St := ⟨(t.s + (n : Int)) % 4096, t.ws.drop n ++ List.replicate (min n t.ws.length) none, t.out ++ bods (t.ws.take n)⟩
def runS (t : St) : St := advS t (rdy t.ws)
def kp (ws : Win) (d : Nat) (b : List Int) : Win := if ws[d]? = some none then ws.set d (some b) else ws
def fill (s : Int) (ws : Win) (xs : List Nf) : Win := xs.foldl (fun ws f => kp ws (sqd s f.Seq).toNat f.Body) ws
def none16 : Win := List.replicate 16 none
def okp (s : Int) : Int → List Nf → Bool
  | _, [] => true
  | p, f :: r => decide (p + 1 ≤ sqd s f.Seq ∧ sqd s f.Seq ≤ 15) && decide (f.Body.length ≤ 100) && okp s (sqd s f.Seq) r
def vr (r : Rob) : Bool := okp r.Start 0 r.Pending && decide (0 ≤ r.Start ∧ r.Start ≤ 4095)
def start (r : Rob) : St := ⟨r.Start, fill r.Start none16 r.Pending, []⟩
def buf (t : St) : Rob := ⟨t.s, pend t.s t.ws⟩
def may (r : Rob) (n : Int) : Bool := vr r && decide (0 ≤ sqd r.Start n ∧ sqd r.Start n ≤ 2047)
def rcvT (t : St) (d : Nat) (b : List Int) : St := runS ⟨(advS t (d - 15)).s, kp (advS t (d - 15)).ws (d - (d - 15)) b, (advS t (d - 15)).out⟩
def recv (r : Rob) (n : Int) (b : List Int) : Rob × List (List Int) :=
  if (may r n && decide (b.length ≤ 100)) = true then (buf (rcvT (start r) (sqd r.Start n).toNat b), (rcvT (start r) (sqd r.Start n).toNat b).out) else (r, [])
def mvT (t : St) (d : Nat) : St := runS (advS t d)
def mvs (r : Rob) (n : Int) : Rob × List (List Int) :=
  if may r n = true then (buf (mvT (start r) (sqd r.Start n).toNat), (mvT (start r) (sqd r.Start n).toNat).out) else (r, [])
def bm (s : Int) (xs : List Nf) : Nat := xs.foldl (fun a f => a ||| 2 ^ (sqd s f.Seq).toNat) 0
def ack (r : Rob) : Int × Int := if vr r = true then (r.Start, (bm r.Start r.Pending : Int)) else (0, 0)
def msn (r : Rob) : List Int := if vr r = true then miss r.Start (start r).ws else []
def new (n : Int) : Rob := if 0 ≤ n ∧ n ≤ 4095 then ⟨n, []⟩ else ⟨0, []⟩

theorem pend_append : ∀ (a b : Win) (s : Int), pend s (a ++ b) = pend s a ++ pend (s + (a.length : Int)) b
  | [], b, s => by simp [pend]
  | none :: a, b, s => by
    have e : s + 1 + (a.length : Int) = s + ((none :: a : Win).length : Int) := by simp; omega
    rw [List.cons_append, pend, pend, pend_append a b, e]
  | some x :: a, b, s => by
    have e : s + 1 + (a.length : Int) = s + ((some x :: a : Win).length : Int) := by simp; omega
    rw [List.cons_append, pend, pend, pend_append a b, e, List.cons_append]
theorem pend_mod : ∀ (a : Win) (s t : Int), s % 4096 = t % 4096 → pend s a = pend t a
  | [], s, t, h => rfl
  | none :: a, s, t, h => by rw [pend, pend]; exact pend_mod a _ _ (by omega)
  | some x :: a, s, t, h => by rw [pend, pend, h, pend_mod a (s + 1) (t + 1) (by omega)]
theorem pend_none : ∀ (a : Win) (s : Int), (∀ o ∈ a, o = none) → pend s a = []
  | [], s, h => rfl
  | o :: a, s, h => by
    obtain rfl := h o List.mem_cons_self
    rw [pend]
    exact pend_none a _ fun o ho => h o (List.mem_cons_of_mem _ ho)
theorem pend_rep (a : Win) (n : Nat) (s : Int) : pend s (a ++ List.replicate n none) = pend s a := by
  rw [pend_append, pend_none (List.replicate n none) _ (fun o ho => List.eq_of_mem_replicate ho), List.append_nil]
theorem pend_none_of : ∀ (a : Win) (s : Int), pend s a = [] → ∀ o ∈ a, o = none
  | [], s, h => fun _ h => by cases h
  | none :: a, s, h => fun o ho => by
    rw [pend] at h
    rcases List.mem_cons.1 ho with rfl | ho
    · rfl
    · exact pend_none_of a _ h o ho
  | some x :: a, s, h => by rw [pend] at h; cases h
theorem bods_append (a b : Win) : bods (a ++ b) = bods a ++ bods b := by simp [bods]
theorem pend_bods : ∀ (a : Win) (s : Int), (pend s a).map (·.Body) = bods a
  | [], s => rfl
  | none :: a, s => by rw [pend, pend_bods a]; rfl
  | some x :: a, s => by rw [pend, List.map_cons, pend_bods a]; rfl
theorem bods_len (a : Win) : (bods a).length ≤ a.length := List.length_filterMap_le _ _
theorem pend_len (a : Win) (s : Int) : (pend s a).length ≤ a.length := by
  have h := congrArg List.length (pend_bods a s)
  rw [List.length_map] at h
  have := bods_len a
  omega
theorem mem_pend : ∀ {a : Win} {s : Int} {x : Nf}, x ∈ pend s a → ∃ i, i < a.length ∧ x.Seq = (s + (i : Int)) % 4096 ∧ a[i]? = some (some x.Body)
  | none :: a, s, x, h => by
    rw [pend] at h
    obtain ⟨i, h1, h2, h3⟩ := mem_pend h
    exact ⟨i + 1, by simp; omega, by rw [h2]; congr 1; push_cast; omega, by simpa using h3⟩
  | some b :: a, s, x, h => by
    rw [pend] at h
    rcases List.mem_cons.1 h with rfl | h
    · exact ⟨0, by simp, by simp, rfl⟩
    · obtain ⟨i, h1, h2, h3⟩ := mem_pend h
      exact ⟨i + 1, by simp; omega, by rw [h2]; congr 1; push_cast; omega, by simpa using h3⟩
theorem sqd_at {s : Int} {i : Nat} (hs : 0 ≤ s ∧ s ≤ 4095) (hi : i < 4096) : sqd s ((s + (i : Int)) % 4096) = (i : Int) := by
  rw [bs.sqd_in hs (by omega)]; omega
theorem at_sqd {s n : Int} (h : 0 ≤ sqd s n) : n = (s + sqd s n) % 4096 := by
  obtain ⟨h1, h2⟩ := bs.sqd_nn h
  rw [bs.sqd_in h1 h2]; omega
/-- Where the elements before a place end. -/
theorem pend_cut {a : Win} {s : Int} (hs : 0 ≤ s ∧ s ≤ 4095) (ha : a.length ≤ 4096) (d : Nat) : (∀ j x, j < (pend s (a.take d)).length → (pend s a)[j]? = some x → sqd s x.Seq < (d : Int)) ∧ (∀ x, (pend s a)[(pend s (a.take d)).length]? = some x → ¬ sqd s x.Seq < (d : Int)) ∧ (pend s (a.take d)).length ≤ (pend s a).length ∧ (pend s a).take (pend s (a.take d)).length = pend s (a.take d) ∧ (pend s a).drop (pend s (a.take d)).length = pend (s + (d : Int)) (a.drop d) := by
  have e : pend s a = pend s (a.take d) ++ pend (s + (d : Int)) (a.drop d) := by
    by_cases hd : d ≤ a.length
    · conv => lhs; rw [← List.take_append_drop d a]
      rw [pend_append, List.length_take, Nat.min_eq_left hd]
    · rw [List.take_of_length_le (by omega), List.drop_eq_nil_of_le (by omega)]; simp [pend]
  refine ⟨fun j x hj hx => ?_, fun x hx => ?_, by rw [e, List.length_append]; omega, by rw [e, List.take_left], by rw [e, List.drop_left]⟩
  · rw [e, List.getElem?_append_left hj] at hx
    obtain ⟨i, h1, h2, _⟩ := mem_pend (List.mem_of_getElem? hx)
    rw [List.length_take] at h1
    rw [h2, sqd_at hs (by omega)]; omega
  · rw [e, List.getElem?_append_right (Nat.le_refl _), Nat.sub_self] at hx
    obtain ⟨i, h1, h2, _⟩ := mem_pend (List.mem_of_getElem? hx)
    rw [List.length_drop] at h1
    have h3 : x.Seq = (s + ((d + i : Nat) : Int)) % 4096 := by rw [h2]; congr 1; push_cast; omega
    rw [h3, sqd_at hs (by omega)]; omega
/-- The head of what is pending. -/
theorem pend_head {a : Win} {s : Int} {x : Nf} (ha : a.length ≤ 4096) (hx : (pend s a)[0]? = some x) : (x.Seq = s % 4096 ∧ a = some x.Body :: a.drop 1) ∨ (x.Seq ≠ s % 4096 ∧ ∃ r, a = none :: r) := by
  match a, ha, hx with
  | [], _, hx => simp [pend] at hx
  | some b :: r, _, hx =>
    have : x = ⟨s % 4096, b⟩ := by simpa [pend] using hx.symm
    subst this
    exact .inl ⟨rfl, rfl⟩
  | none :: r, ha, hx =>
    rw [pend] at hx
    obtain ⟨i, h1, h2, _⟩ := mem_pend (List.mem_of_getElem? hx)
    simp only [List.length_cons] at ha
    exact .inr ⟨by rw [h2]; omega, r, rfl⟩
theorem rdy_le : ∀ a : Win, rdy a ≤ a.length
  | [] => Nat.le_refl _
  | none :: a => by simp [rdy]
  | some b :: a => by have := rdy_le a; simp [rdy]; omega
theorem rdy_at : ∀ {a : Win} {j : Nat}, j < rdy a → ∃ b, a[j]? = some (some b)
  | some b :: a, 0, _ => ⟨b, rfl⟩
  | some b :: a, j + 1, h => by
    obtain ⟨x, hx⟩ := rdy_at (a := a) (j := j) (by simp [rdy] at h; omega)
    exact ⟨x, by simpa using hx⟩
  | none :: a, j, h => by simp [rdy] at h
  | [], j, h => by simp [rdy] at h
theorem rdy_end : ∀ (a : Win) b, a[rdy a]? ≠ some (some b)
  | [], b => by simp
  | none :: a, b => by simp [rdy]
  | some x :: a, b => by simpa [rdy] using rdy_end a b
theorem rdy_rep : ∀ (a : Win) (n : Nat), rdy (a ++ List.replicate n none) = rdy a
  | [], 0 => rfl
  | [], n + 1 => by simp [rdy, List.replicate_succ]
  | none :: a, n => by simp [rdy]
  | some b :: a, n => by simp [rdy, rdy_rep a n]
theorem adv_len (t : St) (n : Nat) : (advS t n).ws.length = t.ws.length := by simp [advS]; omega
theorem adv_s (t : St) (n : Nat) : 0 ≤ (advS t n).s ∧ (advS t n).s ≤ 4095 := by simp only [advS]; omega
theorem adv_zero {t : St} (h : 0 ≤ t.s ∧ t.s ≤ 4095) : advS t 0 = t := by
  obtain ⟨s, ws, out⟩ := t
  simp only [advS, bods] at *
  simp
  omega
theorem adv_step {t : St} {k : Nat} (hk : k < t.ws.length) : advS (advS t k) 1 = advS t (k + 1) := by
  obtain ⟨s, ws, out⟩ := t
  simp only at hk
  have h1 : min k ws.length = k := by omega
  have h2 : min (k + 1) ws.length = k + 1 := by omega
  obtain ⟨o, ho⟩ : ∃ o, ws[k]? = some o := ⟨_, List.getElem?_eq_getElem hk⟩
  have h3 : ws.drop k = o :: ws.drop (k + 1) := by
    rw [List.drop_eq_getElem_cons hk]
    congr 1
    rw [List.getElem?_eq_getElem hk] at ho
    exact Option.some.inj ho
  have h4 : ws.take (k + 1) = ws.take k ++ [o] := by rw [List.take_add_one, ho]; rfl
  have h5 : (o :: ws.drop (k + 1) ++ List.replicate k none : Win).length = ws.length := by simp; omega
  simp only [advS, h1, h2, h3, h4, h5, bods_append]
  have h6 : min 1 ws.length = 1 := by omega
  rw [h6]
  simp [List.replicate_succ', bods]
  omega
theorem adv_head {t : St} (h16 : t.ws.length = 16) (k : Nat) : (advS t k).ws[0]? = if k < 16 then t.ws[k]? else some none := by
  simp only [advS, h16]
  by_cases hk : k < 16
  · rw [if_pos hk, List.getElem?_append_left (by simp; omega), List.getElem?_drop]; simp
  · rw [if_neg hk, List.drop_eq_nil_of_le (by omega), List.nil_append, List.getElem?_replicate]; simp; omega
theorem kp_len (ws : Win) (d : Nat) (b : List Int) : (kp ws d b).length = ws.length := by unfold kp; split <;> simp
theorem kp_yes {ws : Win} {d : Nat} {b : List Int} (h : ws[d]? = some none) : kp ws d b = ws.set d (some b) := by unfold kp; rw [if_pos h]
theorem kp_no {ws : Win} {d : Nat} {b : List Int} (h : ws[d]? ≠ some none) : kp ws d b = ws := by unfold kp; rw [if_neg h]
theorem kp_at {ws : Win} {d : Nat} {b : List Int} (h : d < ws.length) : ∃ c, (kp ws d b)[d]? = some (some c) := by
  by_cases e : ws[d]? = some none
  · rw [kp_yes e]; exact ⟨b, by simp [h]⟩
  · rw [kp_no e]
    rw [List.getElem?_eq_getElem h] at e ⊢
    match hx : ws[d] with
    | none => rw [hx] at e; exact absurd rfl e
    | some c => exact ⟨c, rfl⟩
theorem kp_mem {ws : Win} {d : Nat} {b x : List Int} (h : some x ∈ kp ws d b) : some x ∈ ws ∨ x = b := by
  unfold kp at h
  split at h
  · rcases List.mem_or_eq_of_mem_set h with h | h
    · exact .inl h
    · exact .inr (Option.some.inj h)
  · exact .inl h
theorem kp_other {ws : Win} {d i : Nat} {b : List Int} (h : d ≠ i) : (kp ws d b)[i]? = ws[i]? := by
  unfold kp
  split
  · rw [List.getElem?_set_ne h]
  · rfl
/-- A frame more. -/
theorem pend_set {ws : Win} {d : Nat} {b : List Int} (h : ws[d]? = some none) (s : Int) : pend s (ws.set d (some b)) = pend s (ws.take d) ++ ⟨(s + (d : Int)) % 4096, b⟩ :: pend (s + (d : Int)) (ws.drop d) := by
  have hd : d < ws.length := (List.getElem?_eq_some_iff.1 h).1
  have e1 : ws.drop d = none :: ws.drop (d + 1) := by
    rw [List.drop_eq_getElem_cons hd]
    congr 1
    rw [List.getElem?_eq_getElem hd] at h
    exact Option.some.inj h
  have e2 : ws.set d (some b) = ws.take d ++ some b :: ws.drop (d + 1) := by rw [List.set_eq_take_append_cons_drop, if_pos hd]
  rw [e2, pend_append, List.length_take, Nat.min_eq_left (by omega), pend, e1, pend]
theorem fill_take (s : Int) (ws : Win) {xs : List Nf} {k : Nat} {f : Nf} (h : xs[k]? = some f) : fill s ws (xs.take (k + 1)) = kp (fill s ws (xs.take k)) (sqd s f.Seq).toNat f.Body := by
  rw [List.take_add_one, h]; simp [fill]
theorem fill_len (s : Int) : ∀ (xs : List Nf) (ws : Win), (fill s ws xs).length = ws.length
  | [], ws => rfl
  | f :: r, ws => by rw [show fill s ws (f :: r) = fill s (kp ws (sqd s f.Seq).toNat f.Body) r from rfl, fill_len s r, kp_len]
theorem okp_mem {s : Int} : ∀ {xs : List Nf} {p : Int}, 0 ≤ p → okp s p xs = true → ∀ f ∈ xs, (1 ≤ sqd s f.Seq ∧ sqd s f.Seq ≤ 15) ∧ f.Body.length ≤ 100
  | [], p, hp, h => fun f hf => by cases hf
  | f :: r, p, hp, h => by
    rw [okp, Bool.and_eq_true, Bool.and_eq_true] at h
    have h1 := of_decide_eq_true h.1.1
    intro g hg
    rcases List.mem_cons.1 hg with rfl | hg
    · exact ⟨by omega, of_decide_eq_true h.1.2⟩
    · exact okp_mem (by omega) h.2 g hg
theorem drop_none {ws : Win} {p : Nat} (h : ∀ i, p ≤ i → i < ws.length → ws[i]? = some none) : ∀ o ∈ ws.drop p, o = none := by
  intro o ho
  obtain ⟨i, hi⟩ := List.mem_iff_getElem?.1 ho
  rw [List.getElem?_drop] at hi
  have := h (p + i) (by omega) (List.getElem?_eq_some_iff.1 hi).1
  rw [this] at hi
  exact (Option.some.inj hi).symm
theorem fill_ok {s : Int} (hs : 0 ≤ s ∧ s ≤ 4095) : ∀ (xs : List Nf) (p : Nat) (ws : Win), ws.length = 16 → (∀ i, p + 1 ≤ i → i < 16 → ws[i]? = some none) → okp s p xs = true →
    pend s (fill s ws xs) = pend s ws ++ xs ∧ (∀ x, some x ∈ fill s ws xs → some x ∈ ws ∨ x.length ≤ 100) ∧ (fill s ws xs)[0]? = ws[0]?
  | [], p, ws, hl, hn, h => ⟨by simp [fill], fun x hx => .inl hx, rfl⟩
  | f :: r, p, ws, hl, hn, h => by
    rw [okp, Bool.and_eq_true, Bool.and_eq_true] at h
    have h1 := of_decide_eq_true h.1.1
    have h2 := of_decide_eq_true h.1.2
    obtain ⟨d, hd⟩ : ∃ d : Nat, sqd s f.Seq = d := ⟨(sqd s f.Seq).toNat, by omega⟩
    have hd1 : p + 1 ≤ d ∧ d ≤ 15 := by omega
    have hnd := hn d hd1.1 (by omega)
    have e : fill s ws (f :: r) = fill s (ws.set d (some f.Body)) r := by
      show fill s (kp ws (sqd s f.Seq).toNat f.Body) r = _
      rw [hd, Int.toNat_natCast, kp_yes hnd]
    have ih := fill_ok hs r d (ws.set d (some f.Body)) (by simpa using hl) (fun i h3 h4 => by rw [List.getElem?_set_ne (by omega)]; exact hn i (by omega) h4) (by rw [← hd]; exact h.2)
    rw [e]
    refine ⟨?_, fun x hx => ?_, ?_⟩
    · rw [ih.1, pend_set hnd]
      have hdr := drop_none (ws := ws) (p := d) fun i h3 h4 => hn i (by omega) (by omega)
      have h5 : pend s ws = pend s (ws.take d) := by
        conv => lhs; rw [← List.take_append_drop d ws]
        rw [pend_append, pend_none _ _ hdr, List.append_nil]
      have h6 : f = ⟨(s + (d : Int)) % 4096, f.Body⟩ := by
        have := at_sqd (s := s) (n := f.Seq) (by omega)
        rw [hd] at this
        rw [← this]
      rw [pend_none _ _ hdr, h5, ← h6]
      simp
    · rcases ih.2.1 x hx with h7 | h7
      · rcases List.mem_or_eq_of_mem_set h7 with h7 | h7
        · exact .inl h7
        · exact .inr (by rw [Option.some.inj h7]; exact h2)
      · exact .inr h7
    · rw [ih.2.2, List.getElem?_set_ne (by omega)]
/-- A window in which the first frame is missing. -/
structure Ok (s : Int) (ws : Win) : Prop where
  s : 0 ≤ s ∧ s ≤ 4095
  len : ws.length = 16
  h0 : ws[0]? = some none
  b : ∀ x, some x ∈ ws → x.length ≤ 100
theorem vr_parts {r : Rob} (h : vr r = true) : okp r.Start 0 r.Pending = true ∧ (0 ≤ r.Start ∧ r.Start ≤ 4095) := by
  unfold vr at h
  rw [Bool.and_eq_true] at h
  exact ⟨h.1, of_decide_eq_true h.2⟩
theorem vr_ok {r : Rob} (h : vr r = true) : Ok r.Start (start r).ws ∧ pend r.Start (start r).ws = r.Pending := by
  obtain ⟨h1, h2⟩ := vr_parts h
  have h3 := fill_ok h2 r.Pending 0 none16 (by simp [none16]) (fun i _ h4 => by show (List.replicate 16 none)[i]? = _; rw [List.getElem?_replicate, if_pos h4]) h1
  refine ⟨⟨h2, by show (fill _ _ _).length = _; rw [fill_len]; simp [none16], by show (fill _ _ _)[0]? = _; rw [h3.2.2]; rfl, fun x hx => ?_⟩, ?_⟩
  · rcases h3.2.1 x hx with h4 | h4
    · have := List.eq_of_mem_replicate h4; cases this
    · exact h4
  · show pend _ (fill _ _ _) = _
    rw [h3.1, pend_none none16 _ (fun o ho => List.eq_of_mem_replicate ho)]; rfl
theorem okp_pend {s : Int} (hs : 0 ≤ s ∧ s ≤ 4095) : ∀ (ws : Win) (p q : Nat), p < q → q + ws.length ≤ 16 → (∀ x, some x ∈ ws → x.length ≤ 100) → okp s p (pend (s + (q : Int)) ws) = true
  | [], p, q, h1, h2, h3 => rfl
  | none :: r, p, q, h1, h2, h3 => by
    rw [pend, show s + (q : Int) + 1 = s + ((q + 1 : Nat) : Int) by push_cast; omega]
    simp only [List.length_cons] at h2
    exact okp_pend hs r p (q + 1) (by omega) (by omega) fun x hx => h3 x (List.mem_cons_of_mem _ hx)
  | some b :: r, p, q, h1, h2, h3 => by
    simp only [List.length_cons] at h2
    rw [pend, okp, show s + (q : Int) + 1 = s + ((q + 1 : Nat) : Int) by push_cast; omega]
    simp only [sqd_at hs (show q < 4096 by omega)]
    rw [Bool.and_eq_true, Bool.and_eq_true]
    exact ⟨⟨decide_eq_true (by omega), decide_eq_true (h3 b List.mem_cons_self)⟩, okp_pend hs r q (q + 1) (by omega) (by omega) fun x hx => h3 x (List.mem_cons_of_mem _ hx)⟩
theorem pend_inj : ∀ {a b : Win} {s : Int}, a.length = b.length → a.length ≤ 4095 → pend s a = pend s b → a = b
  | [], [], s, h1, h2, h => rfl
  | none :: a, none :: b, s, h1, h2, h => by
    simp only [List.length_cons] at h1 h2
    rw [pend, pend] at h
    rw [pend_inj (by omega) (by omega) h]
  | some x :: a, some y :: b, s, h1, h2, h => by
    simp only [List.length_cons] at h1 h2
    rw [pend, pend] at h
    injection h with h3 h4
    injection h3 with _ h3
    rw [h3, pend_inj (by omega) (by omega) h4]
  | none :: a, some y :: b, s, h1, h2, h => by
    simp only [List.length_cons] at h1 h2
    rw [pend, pend] at h
    obtain ⟨i, g1, g2, _⟩ := mem_pend (a := a) (s := s + 1) (x := ⟨s % 4096, y⟩) (by rw [h]; exact List.mem_cons_self)
    simp only at g2
    omega
  | some y :: a, none :: b, s, h1, h2, h => by
    simp only [List.length_cons] at h1 h2
    rw [pend, pend] at h
    obtain ⟨i, g1, g2, _⟩ := mem_pend (a := b) (s := s + 1) (x := ⟨s % 4096, y⟩) (by rw [← h]; exact List.mem_cons_self)
    simp only at g2
    omega
theorem ok_vr {s : Int} {ws : Win} (h : Ok s ws) : vr ⟨s, pend s ws⟩ = true ∧ (start ⟨s, pend s ws⟩).ws = ws := by
  have h1 : vr ⟨s, pend s ws⟩ = true := by
    unfold vr
    rw [Bool.and_eq_true]
    refine ⟨?_, decide_eq_true h.s⟩
    obtain ⟨r, rfl⟩ : ∃ r, ws = none :: r := by
      match ws, h.h0 with
      | o :: r, h0 => exact ⟨r, by rw [show o = none by simpa using h0]⟩
    have hl := h.len
    simp only [List.length_cons] at hl
    show okp s 0 (pend s (none :: r)) = true
    rw [pend]
    exact okp_pend h.s r 0 1 (by omega) (by omega) fun x hx => h.b x (List.mem_cons_of_mem _ hx)
  refine ⟨h1, ?_⟩
  have h2 := vr_ok h1
  exact pend_inj (by rw [h2.1.len, h.len]) (by rw [h2.1.len]; omega) h2.2
theorem take_mem {ws : Win} {n : Nat} {o : Option (List Int)} (h : o ∈ ws.drop n ++ List.replicate (min n ws.length) none) : o ∈ ws ∨ o = none := by
  rcases List.mem_append.1 h with h | h
  · exact .inl (List.mem_of_mem_drop h)
  · exact .inr (List.eq_of_mem_replicate h)
theorem run_ok {t : St} (hs : 0 ≤ t.s ∧ t.s ≤ 4095) (hl : t.ws.length = 16) (hb : ∀ x, some x ∈ t.ws → x.length ≤ 100) : Ok (runS t).s (runS t).ws := by
  refine ⟨adv_s _ _, by rw [runS, adv_len, hl], ?_, fun x hx => ?_⟩
  · rw [runS, adv_head hl]
    split
    · rename_i h
      match hx : t.ws[rdy t.ws]? with
      | none => rw [List.getElem?_eq_none_iff] at hx; omega
      | some none => rfl
      | some (some b) => exact absurd hx (rdy_end _ _)
    · rfl
  · rcases take_mem hx with h | h
    · exact hb x h
    · cases h
theorem rdy_none {ws : Win} (h : ws[0]? = some none) : rdy ws = 0 := by
  match ws, h with
  | none :: r, _ => rfl
  | some b :: r, h => simp at h
theorem run_still {t : St} (h : t.ws[0]? = some none) (hs : 0 ≤ t.s ∧ t.s ≤ 4095) : runS t = t := by rw [runS, rdy_none h, adv_zero hs]
theorem buf_start {r : Rob} (h : vr r = true) : buf (start r) = r := by
  show (⟨r.Start, pend r.Start (start r).ws⟩ : Rob) = r
  rw [(vr_ok h).2]
end Go.Proofs.Ytmmhleobgpgliaa.ro
end

section
namespace Go.Proofs.Ytmmhleobgpgliaa.rgp
open Go Go.RowKit sl harn bx mrw
set_option linter.unusedVariables false

/-- An append onto the row: the old slice stays, only its block may change. -/
def Ap {α : Type} (S : Sh α) (lo hi : Nat) (A : Option Addr) (n cap : Nat) (es : List (El α)) (w w' : World) : Prop := Oe S w lo hi A n cap es ∧ w.grownBy w' (blkOf A) ∧ Oe S w' lo hi A n cap es
/-- Operation number k changes the world as E2 says, the others as E1 says. -/
def EA (k : Nat) (E1 E2 : World → World → Prop) (i : Nat) (w w' : World) : Prop := (i ≠ k ∧ E1 w w') ∨ (i = k ∧ E2 w w')
/-- What is right of a value and stays so under both. -/
def St (E1 E2 : World → World → Prop) : Type := { p : Value → World → Prop // ∀ v w w', p v w → (E1 w w' ∨ E2 w w') → p v w' }
def is {E1 E2 : World → World → Prop} (x : Value) : St E1 E2 := ⟨fun v _ => v = x, fun _ _ _ h _ => h⟩
def val {E1 E2 : World → World → Prop} (p : Value → Prop) : St E1 E2 := ⟨fun v _ => p v, fun _ _ _ h _ => h⟩
def RA {E1 E2 : World → World → Prop} (k : Nat) (l : List (St E1 E2)) (q : Value → World → Prop) (i : Nat) (v : Value) (w : World) : Prop := (i ≠ k → (l.getD i (val fun _ => True)).1 v w) ∧ (i = k → q v w)
section
variable {E1 E2 : World → World → Prop} {k i : Nat} {l : List (St E1 E2)} {q : Value → World → Prop} {v : Value} {w w' : World}
theorem ea1 (h : (i == k) = false) (hb : E1 w w') : EA k E1 E2 i w w' := Or.inl ⟨by simpa using h, hb⟩
theorem ea2 (hb : E2 w w') : EA k E1 E2 k w w' := Or.inr ⟨rfl, hb⟩
theorem ea_cases {p : Prop} (h : EA k E1 E2 i w w') (h1 : E1 w w' → p) (h2 : E2 w w' → p) : p := by
  rcases h with ⟨_, h⟩ | ⟨_, h⟩
  · exact h1 h
  · exact h2 h
theorem ra1 (h : (i == k) = false) (hp : (l.getD i (val fun _ => True)).1 v w) : RA k l q i v w := ⟨fun _ => hp, fun e => by rw [e] at h; simp at h⟩
theorem ra1_out (h : (i == k) = false) (hp : RA k l q i v w) : (l.getD i (val fun _ => True)).1 v w := hp.1 (by simpa using h)
theorem ra2 (hp : q v w) : RA k l q k v w := ⟨fun h => absurd rfl h, fun _ => hp⟩
theorem ra2_out (hp : RA k l q k v w) : q v w := hp.2 rfl
theorem ra_keep (hq : ∀ v w w', q v w → E1 w w' → q v w') : ∀ i j v w w', i ≠ j → RA k l q j v w → EA k E1 E2 i w w' → RA k l q j v w' := by
  intro i j v w w' hij hr he
  refine ⟨fun hj => (l.getD j _).2 v w w' (hr.1 hj) ?_, fun hj => ?_⟩
  · rcases he with ⟨_, he⟩ | ⟨_, he⟩
    · exact Or.inl he
    · exact Or.inr he
  · rcases he with ⟨_, he⟩ | ⟨hi, _⟩
    · exact hq v w w' (hr.2 hj) he
    · exact absurd (hi.trans hj.symm) hij
end
section
variable {P : Program} {Q : Exit → Act → World → Prop} {a0 : Act}
/-- The rule: each operation with a relation of its own, a chain at the end. -/
theorem region_tailE {id : Nat} {l : List Oper} {w : World} (E : Nat → World → World → Prop) (s N : Nat) (nd : List (Option (List (Nat × Tmp)))) (hd : List (Nat × Tmp)) (C : World → Prop) (R : Nat → Value → World → Prop) (hm : P.follows .mixedOrders = true) (hs : decide (s < l.length) = true) (hB : reg.okB l.toArray s N [] nd = true)
    (hT : Region.seqB .any l.toArray (l.length - s) s (reg.upTo l.length s) = true) (hN : a0.tmps.size = N) (hC : ∀ i w w', C w → E i w w' → C w') (hR : ∀ i j v w w', i ≠ j → R j v w → E i w w' → R j v w') (h0 : C w.drew) (hH : reg.heads l.toArray s = hd) (hA : reg.All E [] P l.toArray R C a0 0 l nd)
    (hF : ∀ w, C w → reg.Obs l.toArray R w (fun c => wpList P l.toArray Q (l.drop s) c w) hd a0) : (Code.region id l.toArray true).wp P Q a0 w :=
  wp_region_any hm (by
    subst hH
    exact reg.any_tail (Q := Q) (E := E) (rf := []) (of_decide_eq_true hs) (reg.ok_of hB) hT hN hC hR hA hF _ _ a0 w.drew (by simp) (reg.inv_start h0))
end
/-- A block of another type is not the row's own. -/
theorem ne_type {α : Type} {S : Sh α} {w : World} {lo hi n cap : Nat} {A : Option Addr} {es : List (El α)} {T : TypeId} {b : Nat} {cs : Array Value} (h : Bx T w b cs) (o : Oe S w lo hi A n cap es) (hT : T ≠ S.T) : some b ≠ blkOf A := by
  intro e
  rcases o.form with ⟨e0, _⟩ | ⟨g, cur, e0, _, _, h3, _⟩
  · rw [e0] at e; cases e
  · rw [e0] at e
    obtain rfl : b = g := by simpa using e
    unfold Bx at h
    rw [h] at h3
    simp only [Option.some.injEq, Obj.cells.injEq] at h3
    exact hT h3.2.1
/-- A row and its slices stay when a block of another type changes. -/
theorem oe_set {α : Type} {S : Sh α} {w : World} {lo hi n cap : Nat} {A : Option Addr} {es : List (El α)} {T : TypeId} {b : Nat} {cs : Array Value} (o : Oe S w lo hi A n cap es) (h : Bx T w b cs) (hT : T ≠ S.T) (h8 : T ≠ 5) {w' : World} (hs : w.heap.size ≤ w'.heap.size) (hw : ∀ k, k ≠ b → w'.heap[k]? = w.heap[k]?) : Oe S w' lo hi A n cap es := by
  have ow : ∀ {lo2 hi2 m c : Nat} {B : Option Addr} {zs : List Int}, Ow 5 .u8 w lo2 hi2 B m c zs → Ow 5 .u8 w' lo2 hi2 B m c zs := by
    intro lo2 hi2 m c B zs ho
    obtain ⟨⟨q1, q2⟩, q3, q4, q5⟩ := ho
    refine ⟨⟨q1, ?_⟩, q3, by omega, q5⟩
    rcases q2 with q2 | ⟨g', c', cur', e, r1, r2, r3⟩
    · exact Or.inl q2
    · refine Or.inr ⟨g', c', cur', e, r1, ?_, r3⟩
      rw [hw g' (fun heq => by
        subst heq
        unfold Bx at h
        rw [h] at r2
        simp only [Option.some.injEq, Obj.cells.injEq] at r2
        exact h8 r2.2.1)]
      exact r2
  refine ⟨⟨o.row.1, ?_⟩, fun e he => ow (o.body e he), o.ds, by have := o.hi_; omega, o.lt⟩
  rcases o.row.2 with h2 | ⟨g, c, cur, e, g1, g2, g3⟩
  · exact Or.inl h2
  · refine Or.inr ⟨g, c, cur, e, g1, ?_, g3⟩
    rw [hw g (fun heq => by
      subst heq
      unfold Bx at h
      rw [h] at g2
      simp only [Option.some.injEq, Obj.cells.injEq] at g2
      exact hT g2.2.1)]
    exact g2
theorem oe_setCell {α : Type} {S : Sh α} {w : World} {lo hi n cap : Nat} {A : Option Addr} {es : List (El α)} {T : TypeId} {b : Nat} {cs : Array Value} (o : Oe S w lo hi A n cap es) (h : Bx T w b cs) (hT : T ≠ S.T) (h8 : T ≠ 5) (i : Nat) (v : Value) : Oe S (w.setCell ⟨b, i, none⟩ v) lo hi A n cap es :=
  oe_set o h hT h8 (by simp [World.setCell]) fun k hk => Below.heap_setCell _ _ _ _ hk
/-- An element's value with a slice of the call's own above the row. -/
def elv {α : Type} (S : Sh α) (lo hi : Nat) (A : Option Addr) (n cap : Nat) (es : List (El α)) (x : α) (f : Option Addr → Nat → Nat → Value) : St reg.Bel (Ap S lo hi A n cap es) :=
  ⟨fun v w => ∃ A2 n2 c2 lo2 hi2, v = f A2 n2 c2 ∧ hi ≤ lo2 ∧ lo ≤ lo2 ∧ Ow 5 .u8 w lo2 hi2 A2 n2 c2 (S.B x), fun v w w' ⟨A2, n2, c2, lo2, hi2, e, h1, h2, h⟩ hb => by
    rcases hb with hb | hb
    · exact ⟨A2, n2, c2, lo2, hi2, e, h1, h2, h.below hb⟩
    · exact ⟨A2, n2, c2, lo2, hi2, e, h1, h2, ow_grown hb.1 hb.2.1 h⟩⟩
/-- A new slice of that one element. -/
def onev {α : Type} (S : Sh α) (lo hi : Nat) (A : Option Addr) (n cap : Nat) (es : List (El α)) (x : α) (g : Option Addr → Nat → Nat → Array Value) : St reg.Bel (Ap S lo hi A n cap es) :=
  ⟨fun v w => ∃ q A2 n2 c2 lo2 hi2, v = .slice (some ⟨q, 0, none⟩) 1 1 ∧ hi ≤ q ∧ Bx S.T w q (g A2 n2 c2) ∧ hi ≤ lo2 ∧ lo ≤ lo2 ∧ Ow 5 .u8 w lo2 hi2 A2 n2 c2 (S.B x), fun v w w' ⟨q, A2, n2, c2, lo2, hi2, e, hq, hX, h1, h2, h⟩ hb => by
    rcases hb with hb | hb
    · exact ⟨q, A2, n2, c2, lo2, hi2, e, hq, hX.below hb, h1, h2, h.below hb⟩
    · exact ⟨q, A2, n2, c2, lo2, hi2, e, hq, grown_bx hX hb.2.1 (fun e => by have := hb.1.lo_ e.symm; omega), h1, h2, ow_grown hb.1 hb.2.1 h⟩⟩
/-- The row behind the append. -/
def newv {α : Type} (S : Sh α) (lo n : Nat) (es : List (El α)) (x : α) (v : Value) (w : World) : Prop := ∃ A3 c3 f hi3, v = .slice A3 (n + 1) c3 ∧ f.x = x ∧ Oe S w lo hi3 A3 (n + 1) c3 (es ++ [f])
theorem newv_keep {α : Type} {S : Sh α} {lo n : Nat} {es : List (El α)} {x : α} : ∀ v w w', newv S lo n es x v w → reg.Bel w w' → newv S lo n es x v w' := fun v w w' ⟨A3, c3, f, hi3, e, hf, h⟩ hb => ⟨A3, c3, f, hi3, e, hf, h.below hb⟩
/-- The append itself. -/
theorem wp_push {α : Type} {S : Sh α} {P : Program} {o : Oper} {a : Act} {w : World} {K : Act → World → Prop} {Q : Exit → Act → World → Prop} (s x : Operand) (t : TypeId)
    (hop : o.op = .call { callee := .builtin .append, args := #[s, x], argTypes := #[t, t] })
    {i : TypeInfo} {z : Value} (h1 : P.underlying t = some (.slice S.T)) (h2 : P.info? S.T = some i) (h3 : i.zero = some z) (h4 : i.size = S.s) (h5 : i.bytes ≤ 128) (h6 : z.cells.size = S.s)
    {lo hi n cap q : Nat} {A : Option Addr} {es : List (El α)} (hs : a.eval s = .slice A n cap) (hx : a.eval x = .slice (some ⟨q, 0, none⟩) 1 1) (h : Oe S w lo hi A n cap es) (y : α) {A2 : Option Addr} {n2 c2 : Nat} (hX : Bx S.T w q (S.C y A2 n2 c2).toArray)
    {lo2 hi2 : Nat} (hf : Ow 5 .u8 w lo2 hi2 A2 n2 c2 (S.B y)) (hl : hi ≤ lo2) (hll : lo ≤ lo2) (hn : n + 1 ≤ 1073741824) (hlo : lo ≤ w.heap.size)
    (hK : ∀ A' cap' w', newv S lo n es y (.slice A' (n + 1) cap') w' → Ap S lo hi A n cap es w w' → K (a.put o.dst (.slice A' (n + 1) cap')) w') : Oper.wp P o a w K Q := by
  obtain ⟨A', cap', w', hrun, g1, g2, g3, _⟩ := h.more (P := P) t o.type i z h1 h2 h3 h4 h5 h6 ⟨q, 0, none⟩ 1 1 [⟨y, A2, n2, c2⟩] rfl (fun j u hu => by
    have e : flat S [⟨y, A2, n2, c2⟩] = S.C y A2 n2 c2 := by simp [flat, cells]
    rw [e] at hu
    have e2 : (⟨q, 0, none⟩ : Addr).add j = ⟨q, j, none⟩ := by unfold Addr.add; split <;> simp_all
    rw [e2, hX.cell j]
    simpa using hu) (fun f' hf' => by
    obtain rfl : f' = ⟨y, A2, n2, c2⟩ := by simpa using hf'
    exact ⟨lo2, hi2, hll, hf⟩) (h.ds.push h.body hf hl) hn hlo
  unfold Oper.wp execOp
  simp only [hop, resolve, invoke, builtin, Sem.run_bind, Sem.run_pure, Result.andThen_ok, List.map_toArray, List.map_cons, List.map_nil, hs, hx, hrun]
  exact hK A' cap' w' ⟨A', cap', ⟨y, A2, n2, c2⟩, w'.heap.size, rfl, rfl, g1⟩ ⟨h, g2, g3⟩
end Go.Proofs.Ytmmhleobgpgliaa.rgp
end

section
namespace Go.Proofs.Ytmmhleobgpgliaa.ux
open Go.RowKit sl harn bx
open mrw (blkOf grown_below grown_trans grown_bx below_grown)
set_option linter.unusedVariables false

/-- Cells appended onto an own row of cells, told exactly. -/
theorem own_more {P : Program} {T : TypeId} {s lo n cap : Nat} {A : Option Addr} {L M : List Value} {w : World} (t ty : TypeId) (i : TypeInfo) (z : Value) (h1 : P.underlying t = some (.slice T)) (h2 : P.info? T = some i) (h3 : i.zero = some z) (h4 : i.size = s) (h5 : i.bytes ≤ 128) (h6 : z.cells.size = s) (hs : 0 < s)
    (h : w.ownsRow lo T s (.slice A n cap) n L) (hone : ∀ u ∈ M, u.oneCell' = true) (ad : Addr) (m c : Nat) (hm : M.length = m * s) (hsrc : ∀ j u, M[j]? = some u → w.cell? (ad.add j) = some u) (hn : n + m ≤ 1073741824) (hlo : lo ≤ w.heap.size) :
    ∃ A' cap' w', (Builtin.append_ #[t, t] ty #[.slice A n cap, .slice (some ad) m c]).run P w = .ok (.slice A' (n + m) cap') w' ∧ w'.ownsRow lo T s (.slice A' (n + m) cap') (n + m) (L ++ M) ∧ w.grownBy w' (blkOf A) ∧ w'.ownsRow lo T s (.slice A n cap) n L ∧ (blkOf A' = blkOf A ∨ ∀ q, blkOf A' = some q → w.heap.size ≤ q) := by
  have hb8 : (n + m) * i.bytes ≤ 140737488355328 := by
    have := Nat.mul_le_mul hn h5
    omega
  have hlen : (L ++ M).length = (n + m) * s := by rw [List.length_append, h.1, hm, Nat.add_mul]
  have grown : ∀ (old : Nat), old < n + m →
      (w.drew.alloc (.cells (L.toArray ++ M.toArray ++ Builtin.zeroCells z.cells (grownCap w (n + m) old T - (n + m))) T)).ownsRow lo T s
        (.slice (some ⟨w.heap.size, 0, none⟩) (n + m) (grownCap w (n + m) old T)) (n + m) (L ++ M) ∧
      Below w.heap.size w (w.drew.alloc (.cells (L.toArray ++ M.toArray ++ Builtin.zeroCells z.cells (grownCap w (n + m) old T - (n + m))) T)) := by
    intro old ho
    have hge := grownCap_ge w (n + m) old T
    have hcm : grownCap w (n + m) old T ≤ maxLen := grownCap_le_maxLen w (n + m) old T (by unfold maxLen; omega)
    refine ⟨⟨hlen, .inr ⟨w.heap.size, _, _, rfl, hlo, heap_alloc_new w.drew _, hge, hcm, ?_, ?_⟩⟩, ⟨rfl, rfl, rfl, by simp, fun k hk => heap_alloc_old w.drew _ hk⟩⟩
    · simp only [Array.size_append, List.size_toArray, size_zeroCells, h6, h.1, hm, ← Nat.add_mul]
      congr 1
      omega
    · simp only [Array.toList_append, List.append_assoc]
      rw [← List.append_assoc, ← hlen]
      exact List.take_left
  have keep : ∀ {w' : World}, Below w.heap.size w w' → w'.ownsRow lo T s (.slice A n cap) n L := fun {w'} hb => by
    refine ⟨h.1, ?_⟩
    rcases h.2 with h2 | ⟨g, c', cur, e, g1, g2, g3⟩
    · exact .inl h2
    · exact .inr ⟨g, c', cur, e, g1, (hb.block g (lt_of_block g2)).trans g2, g3⟩
  rcases h.2 with ⟨e, e0⟩ | ⟨g, c', cur, e, hg1, hcur, hnc, hcm, hcs, htake⟩
  · injection e with e1 e2 e3
    subst e1 e2 e3
    have he : L = [] := List.eq_nil_of_length_eq_zero (by rw [h.1]; simp)
    subst he
    by_cases hm0 : m = 0
    · subst hm0
      have hf : M = [] := List.eq_nil_of_length_eq_zero (by rw [hm]; simp)
      subst hf
      refine ⟨none, 0, w, ?_, ⟨by simp, .inl ⟨rfl, rfl⟩⟩, ⟨rfl, rfl, rfl, Nat.le_refl _, fun _ _ _ => rfl⟩, h, Or.inl rfl⟩
      simp [Builtin.append_, run_underlying h1, sizeOf, typeInfo, h2, Builtin.lenOf, Builtin.firstCells, loadCells, loadCellsFrom]
    · have hr := run_append_nil (P := P) w t ty T i z h1 h2 h3 ad m c M (by rw [hm, h4]) hsrc (by omega) (by omega) (by have hb := hb8; simp only [Nat.zero_add] at hb; omega)
      have hgr := grown 0 (by omega)
      simp only [Nat.zero_add, List.nil_append, Array.empty_append] at hgr ⊢
      refine ⟨_, _, _, hr, by simpa using hgr.1, grown_below hgr.2 _, keep hgr.2, Or.inr fun q hq => ?_⟩
      have : w.heap.size = q := by simpa using hq
      omega
  · injection e with e1 e2 e3
    subst e1 e3
    by_cases hroom : n + m ≤ cap
    · obtain ⟨w', hr, g1, g2⟩ := run_append_fits (P := P) w lo t ty T i s h1 h2 h4 g n cap L h ad m c M hm hsrc hone hroom
      refine ⟨_, _, w', hr, g1, g2, ?_, Or.inl rfl⟩
      obtain ⟨cur', k1, k2, k3, k4, k5, k6⟩ := mrw.row_at g1
      refine ⟨h.1, .inr ⟨g, cap, cur', rfl, k2, k1, hnc, hcm, k5, ?_⟩⟩
      have := congrArg (List.take (n * s)) k6
      rw [List.take_take, Nat.min_eq_left (Nat.mul_le_mul_right _ (by omega)), List.take_append_of_le_length (by rw [h.1]; exact Nat.le_refl _)] at this
      exact this.trans (List.take_of_length_le (by rw [h.1]; exact Nat.le_refl _))
    · have hr := run_append_grow (P := P) w t ty T i z h1 h2 h3 ⟨g, 0, none⟩ n cap L (by rw [h4]; exact h.1) (h.cells (g := g) rfl) ad m c M (by rw [hm, h4]) hsrc (by omega) (by omega) (growslice_fits (by omega) hb8)
      have hgr := grown cap (by omega)
      refine ⟨_, _, _, hr, hgr.1, grown_below hgr.2 _, keep hgr.2, Or.inr fun q hq => ?_⟩
      have : w.heap.size = q := by simpa using hq
      omega
section
variable {α : Type} {S : Rep α} {T : TypeId} {w w' : World} {lo hi n cap : Nat} {A : Option Addr} {fp : List Nat} {xs : List α}
/-- An own row, opened: its own cells and its elements. -/
theorem row_parts (h : OO (row T S) w lo hi fp (.slice A n cap) xs) : ∃ es : List (Ue α), es.map (·.x) = xs ∧ (∀ e ∈ es, S.O w e.fp e.v e.x ∧ e.v.cells.size = S.n ∧ e.v.cells.all (·.oneCell') = true) ∧ fp = blks A ++ fps es ∧ fp.Nodup ∧ w.ownsRow lo T S.n (.slice A n cap) n (flt es) ∧ es.length = n := by
  obtain ⟨⟨A', n', c', es, e, hm, ho, hnd, hf⟩, hin, hh⟩ := h
  injection e with e1 e2 e3
  subst e1 e2 e3
  refine ⟨es, hm, ho, ?_, hnd, ?_⟩
  · rcases hf with ⟨rfl, rfl, rfl, rfl, rfl⟩ | ⟨g, cur, rfl, h1, h2, h3, h4, h5, h6, rfl⟩
    · rfl
    · rfl
  · rcases hf with ⟨rfl, rfl, rfl, rfl, rfl⟩ | ⟨g, cur, rfl, h1, h2, h3, h4, h5, h6, rfl⟩
    · exact ⟨⟨by simp [flt], .inl ⟨rfl, rfl⟩⟩, rfl⟩
    · exact ⟨⟨by rw [flt_len es (fun e he => (ho e he).2.1), h2], .inr ⟨g, cap, cur, rfl, (hin g List.mem_cons_self).1, h1, h3, h4, h5, h6⟩⟩, h2⟩
theorem row_close {es : List (Ue α)} (hm : es.map (·.x) = xs) (ho : ∀ e ∈ es, S.O w e.fp e.v e.x ∧ e.v.cells.size = S.n ∧ e.v.cells.all (·.oneCell') = true) (hnd : (blks A ++ fps es).Nodup) (hr : w.ownsRow lo T S.n (.slice A n cap) n (flt es)) (hin : ∀ b, b ∈ fps es → lo ≤ b ∧ b < hi) (hA : ∀ b, b ∈ blks A → b < hi) (hh : hi ≤ w.heap.size) : OO (row T S) w lo hi (blks A ++ fps es) (.slice A n cap) xs := by
  have hl : es.length = n := by
    have h1 := hr.1
    rw [flt_len es (fun e he => (ho e he).2.1)] at h1
    exact Nat.eq_of_mul_eq_mul_right S.pos h1
  rcases hr.2 with ⟨e, e0⟩ | ⟨g, c', cur, e, h1, h2, h3, h4, h5, h6⟩
  · injection e with e1 e2 e3
    subst e1 e2 e3
    obtain rfl : es = [] := List.length_eq_zero_iff.1 hl
    exact ⟨⟨none, 0, 0, [], rfl, hm, fun _ h => (by cases h), List.nodup_nil, .inl ⟨rfl, rfl, rfl, rfl, rfl⟩⟩, fun b hb => (by cases hb), hh⟩
  · injection e with e1 e2 e3
    subst e1 e3
    refine ⟨⟨_, n, cap, es, rfl, hm, ho, hnd, .inr ⟨g, cur, rfl, h2, hl, h3, h4, h5, h6, rfl⟩⟩, fun b hb => ?_, hh⟩
    rcases List.mem_append.1 hb with hb | hb
    · have hg : b = g := by simpa [blks] using hb
      exact ⟨by omega, hA b hb⟩
    · exact hin b hb
theorem row_blk (h : OO (row T S) w lo hi fp (.slice A n cap) xs) {q : Nat} (hq : blkOf A = some q) : lo ≤ q ∧ q < hi ∧ q ∈ fp := by
  obtain ⟨es, _, _, hf, _⟩ := row_parts h
  have : q ∈ fp := by
    rw [hf]
    cases A with
    | none => cases hq
    | some a => have : a.block = q := by simpa using hq
                simp [blks, this]
  exact ⟨(h.2.1 q this).1, (h.2.1 q this).2, this⟩
/-- Whatever is apart from a row's own block stays when the row grows. -/
theorem oo_grown {β : Type} {S2 : Rep β} {v : Value} {x : β} {f : List Nat} {lo2 hi2 : Nat} (h : OO S2 w lo2 hi2 f v x) {r : Option Nat} (hg : w.grownBy w' r) (hd : ∀ b, b ∈ f → some b ≠ r) : OO S2 w' lo2 hi2 f v x :=
  ⟨S2.osame h.1 hg.size fun b hb => hg.block b (S2.lt h.1 b hb) (hd b hb), h.2.1, by have := h.2.2; have := hg.size; omega⟩
theorem rr_grown {β : Type} {S2 : Rep β} {v : Value} {x : β} {lo2 hi2 : Nat} (h : RR S2 w lo2 hi2 v x) {r : Option Nat} (hg : w.grownBy w' r) (hd : ∀ b, lo2 ≤ b → b < hi2 → some b ≠ r) : RR S2 w' lo2 hi2 v x :=
  h.same hg.size fun b h1 h2 => hg.block b (by have := h.hi_; omega) (hd b h1 h2)
/-- One element of the call's own appended out of a block that holds it. -/
theorem row_push {P : Program} (t ty : TypeId) (i : TypeInfo) (z : Value) (h1 : P.underlying t = some (.slice T)) (h2 : P.info? T = some i) (h3 : i.zero = some z) (h4 : i.size = S.n) (h5 : i.bytes ≤ 128) (h6 : z.cells.size = S.n)
    (h : OO (row T S) w lo hi fp (.slice A n cap) xs) {u : Value} {f : List Nat} {x : α} {lo2 hi2 : Nat} (hu : OO S w lo2 hi2 f u x) (hd : ∀ b, b ∈ f → b ∉ fp) (hlo2 : lo ≤ lo2) (q c : Nat) (hX : Bx T w q u.cells) (hu1 : u.cells.all (·.oneCell') = true) (hus : u.cells.size = S.n) (hn : n + 1 ≤ 1073741824) (hlo : lo ≤ w.heap.size) :
    ∃ A' cap' w' fp', (Builtin.append_ #[t, t] ty #[.slice A n cap, .slice (some ⟨q, 0, none⟩) 1 c]).run P w = .ok (.slice A' (n + 1) cap') w' ∧ OO (row T S) w' lo w'.heap.size fp' (.slice A' (n + 1) cap') (xs ++ [x]) ∧ w.grownBy w' (blkOf A) ∧ OO (row T S) w' lo hi fp (.slice A n cap) xs ∧ ∀ b, b ∈ fp' → b ∈ fp ∨ b ∈ f ∨ w.heap.size ≤ b := by
  obtain ⟨es, hm, ho, hf, hnd, hr, hl⟩ := row_parts h
  obtain ⟨A', cap', w', hrun, g1, g2, g3, g4⟩ := own_more (P := P) t ty i z h1 h2 h3 h4 h5 h6 S.pos hr (M := u.cells.toList) (fun v hv => (Array.all_eq_true_iff_forall_mem.1 hu1) v (by simpa using hv)) ⟨q, 0, none⟩ 1 c (by simp [hus]) (fun j v hv => by
    have e2 : (⟨q, 0, none⟩ : Addr).add j = ⟨q, j, none⟩ := by unfold Addr.add; split <;> simp_all
    rw [e2, hX.cell j]
    simpa using hv) hn hlo
  have hApart : ∀ b, b ∈ fps es → some b ≠ blkOf A := by
    intro b hb e
    rw [hf] at hnd
    cases A with
    | none => cases e
    | some a =>
      have : b = a.block := by simpa using e
      exact (List.nodup_append.1 hnd).2.2 b (by rw [this]; simp [blks]) b hb rfl
  have hfA : ∀ b, b ∈ f → some b ≠ blkOf A := by
    intro b hb e
    exact hd b hb (by
      rw [hf]
      cases A with
      | none => cases e
      | some a => have : b = a.block := by simpa using e
                  rw [this]; simp [blks])
  have hold : ∀ e ∈ es, S.O w' e.fp e.v e.x ∧ e.v.cells.size = S.n ∧ e.v.cells.all (·.oneCell') = true := fun e he =>
    ⟨S.osame (ho e he).1 g2.size fun b hb => g2.block b (S.lt (ho e he).1 b hb) (hApart b (mem_fps he hb)), (ho e he).2⟩
  have hlt : ∀ b, b ∈ fps es → lo ≤ b ∧ b < hi := fun b hb => h.2.1 b (by rw [hf]; exact List.mem_append_right _ hb)
  have hnew : S.O w' f u x := S.osame hu.1 g2.size fun b hb => g2.block b (S.lt hu.1 b hb) (hfA b hb)
  have hA' : ∀ b, b ∈ blks A' → b < w'.heap.size ∧ (b ∈ blks A ∨ w.heap.size ≤ b) := by
    intro b hb
    have hb2 : blkOf A' = some b := by
      cases A' with
      | none => cases hb
      | some a => have : b = a.block := by simpa [blks] using hb
                  simp [this]
    refine ⟨?_, ?_⟩
    · rcases g1.2 with ⟨e, _⟩ | ⟨g, c', cur, e, _, k2, _⟩
      · injection e with e; rw [e] at hb; cases hb
      · injection e with e
        rw [e] at hb
        have : b = g := by simpa [blks] using hb
        rw [this]; exact lt_of_block k2
    · rcases g4 with g4 | g4
      · left
        rw [g4] at hb2
        cases A with
        | none => cases hb2
        | some a => have : a.block = b := by simpa using hb2
                    simp [blks, this]
      · right; exact g4 b hb2
  have e1 : fps (es ++ [⟨f, u, x⟩]) = fps es ++ f := by simp [fps]
  have hnd2 : (blks A' ++ fps (es ++ [⟨f, u, x⟩])).Nodup := by
    rw [e1]
    rw [hf] at hnd
    have k := List.nodup_append.1 hnd
    refine List.nodup_append.2 ⟨by cases A' <;> simp [blks], List.nodup_append.2 ⟨k.2.1, S.nd hu.1, fun a ha b hb e => ?_⟩, fun a ha b hb e => ?_⟩
    · subst e; exact hd a hb (by rw [hf]; exact List.mem_append_right _ ha)
    · subst e
      rcases (hA' a ha).2 with h7 | h7
      · rcases List.mem_append.1 hb with hb | hb
        · exact k.2.2 a h7 a hb rfl
        · exact hd a hb (by rw [hf]; exact List.mem_append_left _ h7)
      · rcases List.mem_append.1 hb with hb | hb
        · have := (hlt a hb).2; have := h.2.2; omega
        · have := S.lt hu.1 a hb; omega
  have hrow2 : w'.ownsRow lo T S.n (.slice A' (n + 1) cap') (n + 1) (flt (es ++ [⟨f, u, x⟩])) := by
    have : flt (es ++ [⟨f, u, x⟩]) = flt es ++ u.cells.toList := by simp [flt]
    rw [this]; exact g1
  have hfin := row_close (hi := w'.heap.size) (xs := xs ++ [x]) (es := es ++ [⟨f, u, x⟩]) (by simp [hm]) (fun e he => by
    rcases List.mem_append.1 he with he | he
    · exact hold e he
    · obtain rfl : e = ⟨f, u, x⟩ := by simpa using he
      exact ⟨hnew, hus, hu1⟩) hnd2 hrow2 (fun b hb => by
    rw [e1] at hb
    rcases List.mem_append.1 hb with hb | hb
    · have := hlt b hb; have := h.2.2; have := g2.size; omega
    · have := hu.2.1 b hb; have := hu.2.2; have := g2.size; omega) (fun b hb => (hA' b hb).1) (Nat.le_refl _)
  have hkept := row_close (hi := hi) (xs := xs) (es := es) hm hold (by rw [← hf]; exact hnd) g3 hlt (fun b hb => (h.2.1 b (by rw [hf]; exact List.mem_append_left _ hb)).2) (by have := h.2.2; have := g2.size; omega)
  refine ⟨A', cap', w', _, hrun, hfin, g2, by rw [← hf] at hkept; exact hkept, fun b hb => ?_⟩
  rw [e1] at hb
  rcases List.mem_append.1 hb with hb | hb
  · rcases (hA' b hb).2 with h7 | h7
    · exact .inl (by rw [hf]; exact List.mem_append_left _ h7)
    · exact .inr (.inr h7)
  · rcases List.mem_append.1 hb with hb | hb
    · exact .inl (by rw [hf]; exact List.mem_append_right _ hb)
    · exact .inr (.inl hb)
end
/-- An empty row made. -/
theorem row_empty {α : Type} (T : TypeId) (S : Rep α) {w : World} {b : Nat} (h : Bx T w b #[]) : OO (row T S) w b (b + 1) [b] (.slice (some ⟨b, 0, none⟩) 0 0) [] :=
  ⟨⟨_, 0, 0, [], rfl, rfl, fun _ h => (by cases h), by simp, .inr ⟨b, #[], rfl, h, rfl, Nat.le_refl _, by unfold maxLen; omega, by simp, by simp [flt], by simp [fps]⟩⟩, fun c hc => by have h9 : c = b := (by simpa using hc); omega, by have := h.lt; omega⟩
theorem row_nil {α : Type} (T : TypeId) (S : Rep α) (w : World) {lo hi : Nat} (h : hi ≤ w.heap.size) : OO (row T S) w lo hi [] (.slice none 0 0) [] :=
  ⟨⟨none, 0, 0, [], rfl, rfl, fun _ h => (by cases h), List.nodup_nil, .inl ⟨rfl, rfl, rfl, rfl, rfl⟩⟩, fun b hb => (by cases hb), h⟩
section
variable {P : Program} {α : Type} {S : Rep α} {T : TypeId}
/-- As a step of a list. -/
theorem list_push {w : World} {ops : Array Oper} {rest : List Oper} {o : Oper} {a : Act} {Q : Exit → Act → World → Prop} (hgd : o.guard = none) (s x : Operand) (t : TypeId)
    (hop : o.op = .call { callee := .builtin .append, args := #[s, x], argTypes := #[t, t] })
    {i : TypeInfo} {z : Value} (h1 : P.underlying t = some (.slice T)) (h2 : P.info? T = some i) (h3 : i.zero = some z) (h4 : i.size = S.n) (h5 : i.bytes ≤ 128) (h6 : z.cells.size = S.n)
    {lo hi n cap q c : Nat} {A : Option Addr} {fp : List Nat} {xs : List α} (hs : a.eval s = .slice A n cap) (hx : a.eval x = .slice (some ⟨q, 0, none⟩) 1 c) (h : OO (row T S) w lo hi fp (.slice A n cap) xs) {u : Value} {f : List Nat} {y : α} {lo2 hi2 : Nat} (hu : OO S w lo2 hi2 f u y) (hd : ∀ b, b ∈ f → b ∉ fp) (hlo2 : lo ≤ lo2)
    (hX : Bx T w q u.cells) (hu1 : u.cells.all (·.oneCell') = true) (hus : u.cells.size = S.n) (hn : n + 1 ≤ 1073741824) (hlo : lo ≤ w.heap.size)
    (hK : ∀ A' cap' w' fp', OO (row T S) w' lo w'.heap.size fp' (.slice A' (n + 1) cap') (xs ++ [y]) → w.grownBy w' (blkOf A) → (∀ b, b ∈ fp' → b ∈ fp ∨ b ∈ f ∨ w.heap.size ≤ b) → wpList P ops Q rest (a.put o.dst (.slice A' (n + 1) cap')) w') : wpList P ops Q (o :: rest) a w := by
  refine wpList_plain hgd fun K hK' => ?_
  obtain ⟨A', cap', w', fp', hrun, g1, g2, _, g3⟩ := row_push (P := P) t o.type i z h1 h2 h3 h4 h5 h6 h hu hd hlo2 q c hX hu1 hus hn hlo
  unfold Oper.wp execOp
  simp only [hop, resolve, invoke, builtin, Sem.run_bind, Sem.run_pure, Result.andThen_ok, List.map_toArray, List.map_cons, List.map_nil, hs, hx, hrun]
  exact hK' _ _ (hK A' cap' w' fp' g1 g2 g3)
/-- As a step of a region that draws its order. -/
theorem step_push {ops : Array Oper} {o : Oper} {a : Act} {w : World} {K : Act → World → Prop} {Q : Exit → Act → World → Prop} {X : Prop} (hgd : o.guard = none) (s x : Operand) (t : TypeId)
    (hop : o.op = .call { callee := .builtin .append, args := #[s, x], argTypes := #[t, t] })
    {i : TypeInfo} {z : Value} (h1 : P.underlying t = some (.slice T)) (h2 : P.info? T = some i) (h3 : i.zero = some z) (h4 : i.size = S.n) (h5 : i.bytes ≤ 128) (h6 : z.cells.size = S.n)
    {lo hi n cap q c : Nat} {A : Option Addr} {fp : List Nat} {xs : List α} (hs : a.eval s = .slice A n cap) (hx : a.eval x = .slice (some ⟨q, 0, none⟩) 1 c) (h : OO (row T S) w lo hi fp (.slice A n cap) xs) {u : Value} {f : List Nat} {y : α} {lo2 hi2 : Nat} (hu : OO S w lo2 hi2 f u y) (hd : ∀ b, b ∈ f → b ∉ fp) (hlo2 : lo ≤ lo2)
    (hX : Bx T w q u.cells) (hu1 : u.cells.all (·.oneCell') = true) (hus : u.cells.size = S.n) (hn : n + 1 ≤ 1073741824) (hlo : lo ≤ w.heap.size)
    (hK : ∀ A' cap' w' fp', OO (row T S) w' lo w'.heap.size fp' (.slice A' (n + 1) cap') (xs ++ [y]) → w.grownBy w' (blkOf A) → (∀ b, b ∈ fp' → b ∈ fp ∨ b ∈ f ∨ w.heap.size ≤ b) → K (a.put o.dst (.slice A' (n + 1) cap')) w') :
    if Region.wanted o (yielded ops a.tmps) = true then Oper.wp P o a w K Q else X := by
  have hw : Region.wanted o (yielded ops a.tmps) = true := by simp [Region.wanted, hgd]
  rw [if_pos hw]
  obtain ⟨A', cap', w', fp', hrun, g1, g2, _, g3⟩ := row_push (P := P) t o.type i z h1 h2 h3 h4 h5 h6 h hu hd hlo2 q c hX hu1 hus hn hlo
  unfold Oper.wp execOp
  simp only [hop, resolve, invoke, builtin, Sem.run_bind, Sem.run_pure, Result.andThen_ok, List.map_toArray, List.map_cons, List.map_nil, hs, hx, hrun]
  exact hK A' cap' w' fp' g1 g2 g3
end
end Go.Proofs.Ytmmhleobgpgliaa.ux
end

section
namespace Go.Proofs.Ytmmhleobgpgliaa.ro
open Go.RowKit sl harn bx stw
open ux (Nf Rob)
open bs (nsq sqd)
set_option linter.unusedVariables false
set_option linter.unusedSimpArgs false

/-- The cells of a window. -/
def wcs : Win → List Value
  | [] => []
  | o :: r => .bool o.isSome :: .string (strOfNums (o.getD [])) :: wcs r
def vcs (t : St) (hd : Value) : Array Value := (.int .i64 t.s :: (wcs t.ws ++ [hd])).toArray
theorem wcs_len : ∀ ws : Win, (wcs ws).length = 2 * ws.length
  | [] => rfl
  | o :: r => by simp [wcs, wcs_len r]; omega
theorem wcs_append : ∀ a b : Win, wcs (a ++ b) = wcs a ++ wcs b
  | [], b => rfl
  | o :: r, b => by simp [wcs, wcs_append r b]
theorem wcs_one : ∀ (ws : Win), ∀ v ∈ wcs ws, v.oneCell' = true
  | o :: r, v, hv => by
    simp only [wcs, List.mem_cons] at hv
    rcases hv with rfl | rfl | hv
    · rfl
    · rfl
    · exact wcs_one r v hv
theorem wcs_at : ∀ {ws : Win} {i : Nat} {o : Option (List Int)}, ws[i]? = some o → (wcs ws)[i * 2]? = some (.bool o.isSome) ∧ (wcs ws)[i * 2 + 1]? = some (.string (strOfNums (o.getD [])))
  | a :: r, 0, o, h => by
    obtain rfl : a = o := by simpa using h
    exact ⟨rfl, rfl⟩
  | a :: r, i + 1, o, h => by
    have h2 : r[i]? = some o := by simpa using h
    have e : (i + 1) * 2 = i * 2 + 1 + 1 := by omega
    obtain ⟨h3, h4⟩ := wcs_at h2
    rw [e]
    exact ⟨by simpa [wcs] using h3, by simpa [wcs] using h4⟩
theorem vcs_size {t : St} {hd : Value} (h : t.ws.length = 16) : (vcs t hd).size = 34 := by simp [vcs, wcs_len, h]
theorem vcs_win {t : St} {hd : Value} {i : Nat} {v : Value} (h : (wcs t.ws)[i]? = some v) : (vcs t hd)[1 + i]? = some v := by
  have hi := (List.getElem?_eq_some_iff.1 h).1
  simp only [vcs, List.getElem?_toArray]
  rw [Nat.add_comm, List.getElem?_cons_succ, List.getElem?_append_left hi]; exact h
theorem vcs_hd {t : St} {hd : Value} (h : t.ws.length = 16) : (vcs t hd)[33]? = some hd := by
  simp only [vcs, List.getElem?_toArray]
  rw [List.getElem?_cons_succ, List.getElem?_append_right (by rw [wcs_len]; omega), wcs_len, h]; rfl
theorem wcs_set : ∀ (ws : Win) (d : Nat) (b : List Int), d < ws.length → ((wcs ws).set (d * 2) (.bool true)).set (d * 2 + 1) (.string (strOfNums b)) = wcs (ws.set d (some b))
  | a :: r, 0, b, h => rfl
  | a :: r, d + 1, b, h => by
    have ih := wcs_set r d b (by simpa using h)
    have e : (d + 1) * 2 = d * 2 + 1 + 1 := by omega
    rw [e]
    simp only [wcs, List.set_cons_succ]
    rw [ih]
theorem vcs_set {s : Int} {ws : Win} {out : List (List Int)} {hd : Value} {d : Nat} {b : List Int} (h : d < ws.length) : ((vcs ⟨s, ws, out⟩ hd).setIfInBounds (1 + d * 2) (.bool true)).setIfInBounds (1 + d * 2 + 1) (.string (strOfNums b)) = vcs ⟨s, ws.set d (some b), out⟩ hd := by
  have e1 : 1 + d * 2 = d * 2 + 1 := by omega
  simp only [vcs, List.setIfInBounds_toArray]
  congr 1
  rw [e1, List.set_cons_succ, List.set_cons_succ, List.set_append_left _ _ (by rw [wcs_len]; omega), List.set_append_left _ _ (by rw [List.length_set, wcs_len]; omega), wcs_set ws d b h]
theorem conv_bytes {w : World} {lo hi n cap : Nat} {A : Option Addr} {zs : List Int} (h : Rd .u8 w lo hi A n cap zs) : (convert 22 9 (.slice A n cap)).run Try.prog w = .ok (.string (strOfNums zs)) w := by
  by_cases hn : 0 < n
  · obtain ⟨b, off, rfl, _, _, h3⟩ := h.2.2.2.2.2 hn
    exact run_convert_bytes_arg w 22 5 Try.underlying22 Try.underlying5 b off n cap zs h.len h3 9 Try.underlying9
  · have hl := h.len
    have h0 : n = 0 := by omega
    subst h0
    have hz : zs = [] := List.eq_nil_of_length_eq_zero hl
    subst hz
    cases A with
    | none => exact run_convert_bytes_nil w 22 5 Try.underlying22 Try.underlying5 0 cap 9 Try.underlying9
    | some a =>
      obtain ⟨b, off, sp⟩ := a
      rw [run_convert_bytes_string w _ _ _ _ 0 cap Try.underlying22 Try.underlying5 Try.underlying9, run_bytesToString w _ 0 cap [] (by rfl)]
      rfl
theorem setRow_ks {w : World} {g : Nat} {c : Array Value} : KS [g] w (w.setRow g c) := ⟨rfl, rfl, rfl, by simp [World.setRow], fun k _ hk => setRow_other w g k _ (fun e => hk (List.mem_singleton.2 e))⟩
/-- 'copy' onto a part of a block, whatever the elements' size, the source read before anything is written. -/
theorem list_copyB {P : Program} {w : World} {ops : Array Oper} {rest : List Oper} {o : Oper} {a : Act} {Q : Exit → Act → World → Prop} (hgd : o.guard = none) (d s : Operand) (dT : TypeId)
    (ho : o.op = .call { callee := .builtin .copy, args := #[d, s], argTypes := #[dT, dT] }) (elem : TypeId) (hu : P.underlying dT = some (.slice elem)) (m : Nat) (hsz : (P.info? elem).map (·.size) = some m)
    (g off n dCap : Nat) (ad : Addr) (sLen sCap : Nat) (hd : a.eval d = .slice (some ⟨g, off, none⟩) n dCap) (hs : a.eval s = .slice (some ad) sLen sCap) (hle : sLen ≤ n) (T : TypeId) (cur : Array Value) (hX : Bx T w g cur) (cs : List Value) (hn : cs.length = sLen * m)
    (hsrc : ∀ j v, cs[j]? = some v → w.cell? (ad.add j) = some v) (hfit : off + cs.length ≤ cur.size) (h1 : ∀ v ∈ cs, v.oneCell' = true)
    (h : ∀ w', Bx T w' g (cur.toList.take off ++ cs ++ cur.toList.drop (off + cs.length)).toArray → KS [g] w w' → wpList P ops Q rest (a.put o.dst (goInt sLen)) w') : wpList P ops Q (o :: rest) a w := by
  refine wpList_plain hgd fun K hK => ?_
  have hl := run_loadCells_list (P := P) w ad cs hsrc
  have hst := run_storeCells_at P g off T cs 0 cur w hX (by omega) h1
  rw [Nat.add_zero] at hst
  rw [hn] at hl
  generalize (cur.toList.take off ++ cs ++ cur.toList.drop (off + cs.length)).toArray = R at hst h ⊢
  have hmin : Nat.min sLen n = sLen := Nat.min_eq_left hle
  have hrun : (Builtin.copy_ #[dT, dT] o.type #[.slice (some ⟨g, off, none⟩) n dCap, .slice (some ad) sLen sCap]).run P w = .ok (goInt sLen) (w.setRow g R) := by
    cases hq : P.info? elem with
    | none => simp [hq] at hsz
    | some i =>
      have hi : i.size = m := by simpa [hq] using hsz
      simp [Builtin.copy_, run_underlying hu, Builtin.lenOf, Builtin.firstCells, sizeOf, typeInfo, hq, hi, hmin, hl, hst]
  unfold Oper.wp
  simp [execOp, ho, resolve, invoke, builtin, hd, hs, hrun, Result.andThen]
  exact hK _ _ (h _ (show _ = _ from setRow_heap w g _ _ T _ hX) setRow_ks)
/-- 'clear' of a part of a block. -/
theorem run_clearB {P : Program} {w : World} (t ty : TypeId) (e : TypeId) (ht : P.underlying t = some (.slice e)) (zs : Array Value) (hv : ∀ w, (zeroValue e).run P w = .ok (.agg zs) w)
    (g off n c : Nat) (ad : Addr) (had : 0 < n → ad = ⟨g, off, none⟩) (T : TypeId) (cur : Array Value) (hX : Bx T w g cur) (cs : List Value) (hz : (Builtin.zeroCells zs n).toList = cs) (hfit : off + cs.length ≤ cur.size) (h1 : ∀ v ∈ cs, v.oneCell' = true) (h0 : n = 0 → cs = []) :
    ∃ w', (Builtin.clear_ #[t] ty #[.slice (some ad) n c]).run P w = .ok (.tuple #[]) w' ∧ Bx T w' g (cur.toList.take off ++ cs ++ cur.toList.drop (off + cs.length)).toArray ∧ KS [g] w w' := by
  by_cases hn : n = 0
  · subst hn
    have hc := h0 rfl
    refine ⟨w, by simp [Builtin.clear_, run_underlying ht], ?_, KS.refl _ _⟩
    rw [hc]; simpa using hX
  · obtain rfl := had (by omega)
    have hst := run_storeCells_at P g off T cs 0 cur w hX (by omega) h1
    rw [Nat.add_zero] at hst
    generalize (cur.toList.take off ++ cs ++ cur.toList.drop (off + cs.length)).toArray = R at hst ⊢
    obtain ⟨n', rfl⟩ : ∃ n', n = n' + 1 := ⟨n - 1, by omega⟩
    exact ⟨_, by simp [Builtin.clear_, run_underlying ht, hv, Value.cells, hz, hst], show _ = _ from setRow_heap w g _ _ T _ hX, setRow_ks⟩
theorem kp_cases {s : Int} {ws : Win} {out : List (List Int)} {d : Nat} (h : d < ws.length) (zs : List Int) : (ws[d]? = some none ∧ kp ws d zs = ws.set d (some zs)) ∨ (∃ c, ws[d]? = some (some c) ∧ kp ws d zs = ws) := by
  rw [List.getElem?_eq_getElem h]
  match hx : ws[d] with
  | none => exact .inl ⟨rfl, kp_yes (by rw [List.getElem?_eq_getElem h, hx])⟩
  | some c => exact .inr ⟨c, rfl, kp_no (by rw [List.getElem?_eq_getElem h, hx]; simp)⟩
set_option maxRecDepth 100000 in
set_option maxHeartbeats 4000000 in
theorem keep (t : St) (hd : Value) (d : Nat) (zs : List Int) (lo hi : Nat) (A : Option Addr) (n cap b : Nat) (w : World) (hX : Bx 78 w b (vcs t hd)) (h16 : t.ws.length = 16) (hd16 : d < 16) (h : Rd .u8 w lo hi A n cap zs) :
    Calls Try.prog 64 #[.pointer (some ⟨b, 0, none⟩), .int .i64 (d : Int), .slice A n cap] w fun e w' => e = .returned (.tuple #[]) ∧ Bx 78 w' b (vcs ⟨t.s, kp t.ws d zs, t.out⟩ hd) ∧ KS [b] w w' := by
  obtain ⟨s, ws, out⟩ := t
  have HX := Lib.hid hX
  have HR := Lib.hid h
  have HL := Lib.hid h16
  clear hX h
  have hdI : (d : Int) < 16 := by omega
  rcases kp_cases (s := s) (out := out) (d := d) (ws := ws) (by rw [HL.out]; exact hd16) zs with ⟨h1, h2⟩ | ⟨c, h1, h2⟩
  · have HK := Lib.hid h2
    have c0 : w.cell? ⟨b, 1 + d * 2, none⟩ = some (.bool false) := by rw [HX.out.cell]; exact vcs_win (wcs_at h1).1
    clear h1 h2 h16
    go_enter Try.func64, Try.ntmps64
    go_wp2_with fail
    have kcv := conv_bytes (HR.out.same (w' := w.drew) (Nat.le_refl _) (fun _ _ _ => rfl))
    have kcv2 := conv_bytes HR.out
    go_still_tail 8, (by kernel_rfl)
    change wpList _ _ _ _ _ w.drew
    have HX1 := Lib.hid (show Bx 78 w.drew b (vcs ⟨s, ws, out⟩ hd) from HX.out.same rfl)
    have HK1 := Lib.hid (show KS [b] w w.drew from ⟨rfl, rfl, rfl, Nat.le_refl _, fun _ _ _ => rfl⟩)
    obtain ⟨w1, hw1⟩ : ∃ w1, w.drew = w1 := ⟨_, rfl⟩
    rw [hw1] at HX1 HK1 ⊢
    clear hw1 kcv kcv2 c0
    obtain ⟨o, ho⟩ : ∃ o, ws[d]? = some o := ⟨_, List.getElem?_eq_getElem (by have := HL.out; omega)⟩
    have c0 : w1.cell? ⟨b, 1 + d * 2, none⟩ = some (.bool o.isSome) := by rw [HX1.out.cell]; exact vcs_win (wcs_at ho).1
    have c1 : w1.cell? ⟨b, 1 + d * 2 + 1, none⟩ = some (.string (strOfNums (o.getD []))) := by rw [HX1.out.cell, Nat.add_assoc]; exact vcs_win (wcs_at ho).2
    have f0 : w1.frozen? ⟨b, 1 + d * 2, none⟩ = false := HX1.out.free _
    have f1 : w1.frozen? ⟨b, 1 + d * 2 + 1, none⟩ = false := HX1.out.free _
    go_wp2_with fail
    refine bodyPost_end (results_none rfl _ _ _) rfl ⟨rfl, ?_, ?_⟩
    · rw [HK.out, ← vcs_set (by rw [HL.out]; exact hd16)]
      exact (HX1.out.set _ _).set _ _
    · exact HK1.out.trans ((ux.ks_set (List.mem_singleton.2 rfl) _ _).trans (ux.ks_set (List.mem_singleton.2 rfl) _ _))
  · have HK := Lib.hid h2
    have c0 : w.cell? ⟨b, 1 + d * 2, none⟩ = some (.bool true) := by rw [HX.out.cell]; exact vcs_win (wcs_at h1).1
    clear h1 h2 h16
    go_enter Try.func64, Try.ntmps64
    go_wp2_with fail
    exact bodyPost_end (results_none rfl _ _ _) rfl ⟨rfl, by rw [HK.out]; exact HX.out, KS.refl _ _⟩
end Go.Proofs.Ytmmhleobgpgliaa.ro
end

section
namespace Go.Proofs.Ytmmhleobgpgliaa.ux
open Go.RowKit sl harn bx
open mrw (blkOf)
set_option linter.unusedVariables false

theorem bx_ks {T : TypeId} {w w' : World} {b : Nat} {cs : Array Value} {F : List Nat} (h : Bx T w b cs) (hk : stw.KS F w w') (hn : b ∉ F) : Bx T w' b cs := h.same (hk.block b h.lt hn)
section
variable {α : Type} (S : Rep α) (T : TypeId) (hi : Nat) (fp : List Nat) (A : Option Addr) (n cap : Nat) (xs : List α)
/-- An append onto the row: the old slice stays, only its block may change. -/
def ApU (w w' : World) : Prop := OO (row T S) w 0 hi fp (.slice A n cap) xs ∧ w.grownBy w' (blkOf A) ∧ OO (row T S) w' 0 hi fp (.slice A n cap) xs
/-- What holds all the way: all but the row's blocks is as it was; the row stays. -/
def CU (W w' : World) : Prop := stw.KS fp W w' ∧ OO (row T S) w' 0 hi fp (.slice A n cap) xs
theorem cu_start {W : World} (h : OO (row T S) W 0 hi fp (.slice A n cap) xs) : CU S T hi fp A n cap xs W W.drew :=
  ⟨⟨rfl, rfl, rfl, Nat.le_refl _, fun _ _ _ => rfl⟩, h.same (Nat.le_refl _) fun _ _ _ => rfl⟩
theorem cu_keep (k : Nat) (W : World) : ∀ i w1 w2, CU S T hi fp A n cap xs W w1 → rgp.EA k reg.Bel (ApU S T hi fp A n cap xs) i w1 w2 → CU S T hi fp A n cap xs W w2 := fun i w1 w2 hc he =>
  rgp.ea_cases he (fun hb => ⟨hc.1.trans (ks_below hb fp), hc.2.below hb⟩) (fun h2 => ⟨hc.1.trans ⟨h2.2.1.os, h2.2.1.tape, h2.2.1.output, h2.2.1.size, fun k hk hn => h2.2.1.block k hk fun e => hn (row_blk h2.1 e.symm).2.2⟩, h2.2.2⟩)
/-- A value of the call's own above the row. -/
def elU {β : Type} (S2 : Rep β) (y : β) : rgp.St reg.Bel (ApU S T hi fp A n cap xs) :=
  ⟨fun v w => ∃ f lo2 hi2, hi ≤ lo2 ∧ OO S2 w lo2 hi2 f v y, fun v w w' ⟨f, lo2, hi2, h1, h⟩ hb => by
    rcases hb with hb | hb
    · exact ⟨f, lo2, hi2, h1, h.below hb⟩
    · exact ⟨f, lo2, hi2, h1, oo_grown h hb.2.1 fun b hm e => by have h3 := row_blk hb.1 e.symm; have := (h.2.1 b hm).1; omega⟩⟩
/-- A new slice of one such element. -/
def oneU (y : α) : rgp.St reg.Bel (ApU S T hi fp A n cap xs) :=
  ⟨fun v w => ∃ q c u f lo2 hi2, v = .slice (some ⟨q, 0, none⟩) 1 c ∧ hi ≤ q ∧ Bx T w q u.cells ∧ hi ≤ lo2 ∧ OO S w lo2 hi2 f u y, fun v w w' ⟨q, c, u, f, lo2, hi2, e, hq, hX, h1, h⟩ hb => by
    rcases hb with hb | hb
    · exact ⟨q, c, u, f, lo2, hi2, e, hq, hX.below hb, h1, h.below hb⟩
    · exact ⟨q, c, u, f, lo2, hi2, e, hq, mrw.grown_bx hX hb.2.1 (fun e => by have h3 := row_blk hb.1 e.symm; omega), h1, oo_grown h hb.2.1 fun b hm e => by have h3 := row_blk hb.1 e.symm; have := (h.2.1 b hm).1; omega⟩⟩
/-- The row behind the append. -/
def newU (y : α) (v : Value) (w : World) : Prop := ∃ A3 c3 fp3 hi3, v = .slice A3 (n + 1) c3 ∧ OO (row T S) w 0 hi3 fp3 (.slice A3 (n + 1) c3) (xs ++ [y]) ∧ ∀ b, b ∈ fp3 → b ∈ fp ∨ hi ≤ b
theorem newU_keep (y : α) : ∀ v w w', newU S T hi fp n xs y v w → reg.Bel w w' → newU S T hi fp n xs y v w' := fun v w w' ⟨A3, c3, f3, hi3, e, h, hf⟩ hb => ⟨A3, c3, f3, hi3, e, h.below hb, hf⟩
end
section
variable {P : Program} {α : Type} {S : Rep α} {T : TypeId}
theorem oo_one {w : World} {lo hi : Nat} {f : List Nat} {u : Value} {x : α} (h : OO S w lo hi f u x) : u.cells.all (·.oneCell') = true ∧ u.cells.size = S.n := ⟨S.one h.rd, S.len h.rd⟩
/-- The append itself. -/
theorem wp_push {o : Oper} {a : Act} {w : World} {K : Act → World → Prop} {Q : Exit → Act → World → Prop} (s x : Operand) (t : TypeId)
    (hop : o.op = .call { callee := .builtin .append, args := #[s, x], argTypes := #[t, t] })
    {i : TypeInfo} {z : Value} (h1 : P.underlying t = some (.slice T)) (h2 : P.info? T = some i) (h3 : i.zero = some z) (h4 : i.size = S.n) (h5 : i.bytes ≤ 128) (h6 : z.cells.size = S.n)
    {hi n cap q c : Nat} {A : Option Addr} {fp : List Nat} {xs : List α} (hs : a.eval s = .slice A n cap) (hx : a.eval x = .slice (some ⟨q, 0, none⟩) 1 c) (h : OO (row T S) w 0 hi fp (.slice A n cap) xs) {u : Value} {f : List Nat} (y : α) {lo2 hi2 : Nat} (hu : OO S w lo2 hi2 f u y) (hl : hi ≤ lo2)
    (hX : Bx T w q u.cells) (hn : n + 1 ≤ 1073741824)
    (hK : ∀ A' cap' w', newU S T hi fp n xs y (.slice A' (n + 1) cap') w' → ApU S T hi fp A n cap xs w w' → K (a.put o.dst (.slice A' (n + 1) cap')) w') : Oper.wp P o a w K Q := by
  obtain ⟨A', cap', w', fp', hrun, g1, g2, g4, g3⟩ := row_push (P := P) t o.type i z h1 h2 h3 h4 h5 h6 h hu (fun b hb hm => by have := (hu.2.1 b hb).1; have := (h.2.1 b hm).2; omega) (Nat.zero_le _) q c hX (oo_one hu).1 (oo_one hu).2 hn (Nat.zero_le _)
  unfold Oper.wp execOp
  simp only [hop, resolve, invoke, builtin, Sem.run_bind, Sem.run_pure, Result.andThen_ok, List.map_toArray, List.map_cons, List.map_nil, hs, hx, hrun]
  refine hK A' cap' w' ⟨A', cap', fp', w'.heap.size, rfl, g1, fun b hb => ?_⟩ ⟨h, g2, g4⟩
  rcases g3 b hb with h7 | h7 | h7
  · exact .inl h7
  · have := (hu.2.1 b h7).1; exact .inr (by omega)
  · have := h.2.2; exact .inr (by omega)
end
end Go.Proofs.Ytmmhleobgpgliaa.ux
end

section
namespace Go.Proofs.Ytmmhleobgpgliaa.ag
open Go.RowKit sl harn bx
theorem run_makeS {P : Program} (t e : TypeId) (i : TypeInfo) (z : Value) (s : Nat) (ht : P.underlying t = some (.slice e)) (hi : P.info? e = some i) (hz : i.zero = some z) (hs : i.size = s)
    (n : Nat) (hb8 : i.bytes ≤ 128) (hn : n ≤ 67108864) (w : World) :
    (Instr.makeSlice t (.int .i64 (n : Int)) (.int .i64 (n : Int))).run P w = .ok (.slice (some ⟨w.heap.size, 0, none⟩) n n) (w.alloc (.cells (madeCells z.cells (n * s)) e)) := by
  have hb : (i.bytes : Int) * (n : Int) ≤ 281474976710656 := by
    have h : ((i.bytes * n : Nat) : Int) ≤ 281474976710656 := by
      have h1 := Nat.mul_le_mul hb8 hn
      omega
    rwa [Int.natCast_mul] at h
  have hr := run_make (P := P) w t e i z ht hi hz .i64 .i64 n n (by omega) (by omega) hb (by omega)
  simp only [Int.toNat_natCast] at hr
  rw [hs] at hr
  exact hr
end Go.Proofs.Ytmmhleobgpgliaa.ag
namespace Go.Proofs.Ytmmhleobgpgliaa.ux
open Go.RowKit sl harn bx stw
set_option linter.unusedVariables false
set_option linter.unusedSimpArgs false

def rowB : Rep (List (List Int)) := row 22 bytes
theorem rowB_sl {w : World} {lo hi : Nat} {v : Value} {x : List (List Int)} (h : rowB.R w lo hi v x) : ∃ A n c, v = .slice A n c := by
  obtain ⟨A, n, c, e, _⟩ := h
  exact ⟨A, n, c, e⟩
theorem rowB_slo {w : World} {fp : List Nat} {v : Value} {x : List (List Int)} (h : rowB.O w fp v x) : ∃ A n c, v = .slice A n c := by
  obtain ⟨A, n, c, es, e, _⟩ := h
  exact ⟨A, n, c, e⟩
theorem rowB_tot (x : List (List Int)) : rowB.tot x ≤ 64 * rowB.sz x := row_tot _ _ x
theorem infoB : (Try.prog.info? 22).map (fun i => (i.zero, i.size, i.bytes)) = some (some (.slice none 0 0), 1, 24) := by kernel_rfl
theorem szB : (Try.prog.info? 22).map (·.size) = some 1 := by kernel_rfl
theorem oneB (A : Option Addr) (n c : Nat) : (#[.slice A n c] : Array Value).all (·.oneCell') = true := all_oneCell_toArray (cs := [.slice A n c]) (by intro v hv; simp only [List.mem_singleton] at hv; subst hv; rfl)
theorem bytes_r {w : World} {lo hi : Nat} {v : Value} {x : List Int} (h : RR bytes w lo hi v x) : ∃ A n c, v = .slice A n c ∧ RR bytes w lo hi (.slice A n c) x := by
  obtain ⟨A, n, c, rfl⟩ := bytes_sl h
  exact ⟨A, n, c, rfl, h⟩
theorem bytes_o {w : World} {lo hi : Nat} {fp : List Nat} {v : Value} {x : List Int} (h : OO bytes w lo hi fp v x) : ∃ A n c f, v = .slice A n c ∧ OO bytes w lo hi f (.slice A n c) x ∧ fp = f ∧ fp.Nodup := by
  obtain ⟨A, n, c, rfl⟩ := bytes_slo h.1
  exact ⟨A, n, c, fp, rfl, h, rfl, bytes.nd h.1⟩
theorem bytes_mk {w : World} {lo hi : Nat} {fp : List Nat} {v : Value} {x : List Int} (h : OO bytes w lo hi fp v x) (hn : fp.Nodup) : OO bytes w lo hi fp v x := h
theorem setCells_1 (w : World) (b o : Nat) (v : Value) : w.setCells b (o * 1) [v] = w.setCell ⟨b, o, none⟩ v := by rw [Nat.mul_one]; rfl
theorem there_1 {w : World} {b o : Nat} (h : w.there b (o * 1) 1) : (∃ v, w.cell? ⟨b, o, none⟩ = some v) ∧ w.frozen? ⟨b, o, none⟩ = false := by
  have h1 := h 0 (by omega)
  rw [Nat.mul_one, Nat.add_zero] at h1
  exact ⟨Option.isSome_iff_exists.1 h1.1, h1.2⟩
set_option maxRecDepth 100000 in
set_option maxHeartbeats 4000000 in
theorem eqByteSS {w : World} {lo hi lo2 hi2 : Nat} {v u : Value} {xs : List (List Int)} (h : RR rowB w lo hi v xs) (h2 : RR rowB w lo2 hi2 u xs) :
    Calls Try.prog 39 #[v, u] w (BPost true w) := by
  obtain ⟨A, n, c, rfl, hl, hnc, hcm⟩ := row_open h
  obtain ⟨A2, n2, c2, rfl, hl2, hnc2, hcm2⟩ := row_open h2
  obtain rfl : n = n2 := hl.symm.trans hl2
  have HQ := Lib.hid h
  have HP := Lib.hid h2
  clear h h2
  go_enter Try.func39, Try.ntmps39
  go_wp2_with fail
  go_loopw [5] (fun i wr => ∃ k : Nat, i = .int .i64 k ∧ k ≤ n ∧ Below w.heap.size w wr) (fun i _ => n - (intOf i).toNat)
  case atStart => exact ⟨0, rfl, by omega, Below.refl _ _⟩
  case round =>
    obtain ⟨k, rfl, hk, hb⟩ := hrel
    have HB := Lib.hid hb
    have HR := Lib.hid (HQ.out.below hb)
    have HS := Lib.hid (HP.out.below hb)
    clear hb
    by_cases hlt : k < n
    · obtain ⟨b, off, y, u, hA, hy, hb1, hb2, hr, hu⟩ := row_at HR.out hlt
      obtain ⟨A0, n0, c0, rfl, g0⟩ := bytes_r hu
      obtain ⟨bb, offb, yb, ub, hAb, hyb, hb1b, hb2b, hrb, hub⟩ := row_at HS.out hlt
      obtain ⟨Ab0, nb0, cb0, rfl, gb0⟩ := bytes_r hub
      obtain rfl : y = yb := Option.some.inj (hy.symm.trans hyb)
      subst hA hAb
      have hlt2 : (k : Int) < n := by omega
      have kc0 : wr.cell? ⟨b, off + k, none⟩ = some (.slice A0 n0 c0) := by have hh : wr.cell? ⟨b, off + k * 1 + 0, none⟩ = some (.slice A0 n0 c0) := hr 0 _ rfl; rwa [Nat.mul_one, Nat.add_zero] at hh
      have kcb0 : wr.cell? ⟨bb, offb + k, none⟩ = some (.slice Ab0 nb0 cb0) := by have hh : wr.cell? ⟨bb, offb + k * 1 + 0, none⟩ = some (.slice Ab0 nb0 cb0) := hrb 0 _ rfl; rwa [Nat.mul_one, Nat.add_zero] at hh
      have HU := Lib.hid (show RR bytes wr lo hi ((.slice A0 n0 c0)) y from hu)
      have HUb := Lib.hid (show RR bytes wr lo2 hi2 ((.slice Ab0 nb0 cb0)) y from hub)
      clear hu hub hy hyb hr hrb g0 gb0
      go_upto_region 6 with fail
      have d0 : ∀ m : Af wr, m.w.cell? ⟨b, off + k, none⟩ = some (.slice A0 n0 c0) := fun m => by rw [m.below.cell (World.block_lt_of_cell? _ _ kc0)]; exact kc0
      have db0 : ∀ m : Af wr, m.w.cell? ⟨bb, offb + k, none⟩ = some (.slice Ab0 nb0 cb0) := fun m => by rw [m.below.cell (World.block_lt_of_cell? _ _ kcb0)]; exact kcb0
      have q0 := Lib.hid (fun m => eqByteS (HU.out.below m.below) (HUb.out.below m.below) : ∀ m : Af wr, Calls Try.prog 40 #[(.slice A0 n0 c0), (.slice Ab0 nb0 cb0)] m.w fun e w' => e = .returned (.bool true) ∧ Below m.w.heap.size m.w w')
      clear kc0 kcb0
      refine region_after (by kernel_rfl) (by kernel_rfl) ?_
      repeat (go_big_quiet_step ((go_at_call 40; with_reducible exact Af.call (q0.out _))))
      refine wpQuiet_nil ?_
      intro _ hw'
      obtain ⟨nq, hw''⟩ := hw'
      subst hw''
      clear d0 db0 q0
      obtain ⟨w5, hw5⟩ : ∃ w5, nq.w = w5 := ⟨_, rfl⟩
      have NB := Lib.hid nq.below
      rw [hw5] at NB
      (try rw [hw5])
      clear hw5
      have HB5 := Lib.hid (HB.out.trans (NB.out.mono HB.out.size))
      clear NB nq HB
      go_wp2_with fail
      go_roundw
      case rel => exact ⟨k + 1, by go_num, by omega, HB5.out⟩
      case measure => simp [intOf]; omega
    · have hlt2 : ¬ (k : Int) < n := by omega
      go_wp2_with fail
      go_ret
      exact ⟨rfl, HB.out⟩
set_option maxRecDepth 100000 in
set_option maxHeartbeats 4000000 in
theorem markByteSS {w : World} {lo hi : Nat} {fp : List Nat} {v : Value} {xs : List (List Int)} (q : Int) (h : OO rowB w lo hi fp v xs) (hq : 0 ≤ q ∧ q + (rowB.tot xs : Nat) ≤ 1099511627776) (hs : rowB.sz xs ≤ 67108864) :
    Calls Try.prog 42 #[v, .int .i64 q] w (MkPost rowB (rowB.mkx q xs) (q + (rowB.tot xs : Nat)) lo hi fp v w) := by
  obtain ⟨A, n, c, rfl, hl, hnc, hcm⟩ := row_open h.rd
  have HL := Lib.hid hl
  have hq9 : 0 ≤ q ∧ q + (sumT bytes.tot xs : Nat) ≤ 1099511627776 := hq
  have HQ := Lib.hid hq9
  have hs9 : xs.length + sumT bytes.sz xs ≤ 67108864 := hs
  have HBD := Lib.hid (show ∀ y ∈ xs, bytes.sz y ≤ 67108864 from fun y hy => by have := sumT_mem bytes.sz hy; omega)
  have KH := Lib.hid h.hi_
  have H0 := Lib.hid h
  show Calls Try.prog 42 #[.slice A n c, .int .i64 q] w (MkPost rowB (mks bytes.mkx bytes.tot q xs) (q + (sumT bytes.tot xs : Nat)) lo hi fp (.slice A n c) w)
  clear h hq hq9 hs hs9 hl
  go_enter Try.func42, Try.ntmps42
  go_wp2_with fail
  go_loopw [1, 5] (fun q2 i wr => ∃ j : Nat, i = .int .i64 j ∧ q2 = .int .i64 (q + (sumT bytes.tot (xs.take j) : Nat)) ∧ j ≤ n ∧ OO rowB wr lo hi fp (.slice A n c) (mks bytes.mkx bytes.tot q (xs.take j) ++ xs.drop j) ∧ KS fp w wr) (fun _ i _ => n - (intOf i).toNat)
  case atStart => exact ⟨0, rfl, by simp [sumT], by omega, by simpa [mks] using H0.out, KS.refl _ _⟩
  clear H0
  case round =>
    obtain ⟨j, rfl, rfl, hj, ho, hk⟩ := hrel
    obtain ⟨t, hq⟩ : ∃ t, q + (sumT bytes.tot (xs.take j) : Nat) = t := ⟨_, rfl⟩
    have HTT := Lib.hid hq
    have HO := Lib.hid ho
    have K0 := Lib.hid hk
    have hb1 : 0 ≤ t ∧ t ≤ 1099511627776 := by have a1 := HQ.out; have a2 := sumT_take bytes.tot xs j; omega
    rw [hq]
    clear ho hk hq
    by_cases hlt : j < n
    · have hlt2 : (j : Int) < n := by omega
      obtain ⟨x, hx⟩ : ∃ x, xs[j]? = some x := ⟨_, List.getElem?_eq_getElem (by rw [HL.out]; exact hlt)⟩
      have HX := Lib.hid hx
      have hx2 := at_mid (mk := bytes.mkx) (tot := bytes.tot) (q := q) hx
      have HSX := Lib.hid (HBD.out x (List.mem_of_getElem? hx))
      have hend : t + (bytes.tot x : Nat) ≤ 1099511627776 := by have a1 := HQ.out; have a2 := sumT_take bytes.tot xs (j + 1); rw [take_snoc hx, sumT_snoc] at a2; have a3 := HTT.out; omega
      have HND := Lib.hid hend
      obtain ⟨g, n1, cc1, l, r, u, f, e1, hlj, hsp, hole, hox, hfp, hnd, husz, huone⟩ := row_hole HO.out hx2
      injection e1 with e1 e2 e3
      subst e1 e2 e3
      obtain ⟨A0, n0, c0, f0, rfl, g0, hff, hnf⟩ := bytes_o hox
      have HO0 := Lib.hid (show Hole bytes 22 wr g n c l r [.slice A0 n0 c0] from hole)
      have HFP := Lib.hid hfp
      have HNF := Lib.hid hnd
      have AP := Lib.hid (hole_apart hfp hnd)
      have HIN := Lib.hid hox.inn
      have HALL := Lib.hid HO.out.inn
      have HHI := Lib.hid HO.out.hi_
      have HLJ := Lib.hid hlj
      have HSP := Lib.hid hsp
      have N0_0 := Lib.hid g0
      have HFF := Lib.hid hff
      have HNN := Lib.hid hnf
      clear hole hox hx hx2 hfp hnd husz huone hlj hsp HO hff hnf g0
      have kc0 : wr.cell? ⟨g, j, none⟩ = some (.slice A0 n0 c0) := by have hh : wr.cell? ⟨g, j * 1 + 0, none⟩ = some (.slice A0 n0 c0) := HO0.out.cell HLJ.out (i := 0) rfl; rwa [Nat.mul_one, Nat.add_zero] at hh
      go_wp2_with fail
      clear kc0
      have HK0 := Lib.hid (show 0 ≤ t ∧ t + (bytes.tot x : Nat) ≤ 1099511627776 by have a1 := HND.out; have a2 : True := trivial; omega)
      have HZ0 := Lib.hid (show bytes.sz x ≤ 67108864 by have a1 := HSX.out; have a2 : True := trivial; omega)
      (with_reducible refine (markByteS t N0_0.out HK0.out HZ0.out).mono ?_)
      rintro e wb0 hp
      obtain ⟨rfl, ho, hk⟩ := hp.parts
      have HO1 := Lib.hid (HO0.out.ks hk (fun hb => AP.out.1 (by rw [HFF.out]; simp [hb])) (fun e he b hb hb2 => AP.out.2.1 e he b hb (by rw [HFF.out]; simp [hb2])))
      have K1 := Lib.hid (K0.out.trans (ks_more hk (fun b hb => AP.out.2.2.1 b (by rw [HFF.out]; simp [hb]))))
      have N0_1 := Lib.hid ho
      clear hp ho hk HO0 K0 N0_0
      obtain ⟨t0, ht0⟩ : ∃ y : Int, t + (bytes.tot x : Nat) = y := ⟨_, rfl⟩
      have Ht0 := Lib.hid ht0
      have hbt0 : 0 ≤ t0 ∧ t0 ≤ 1099511627776 := by have a1 := HK0.out; omega
      rw [ht0]
      clear ht0
      have kc0 : wb0.cell? ⟨g, j, none⟩ = some (.slice A0 n0 c0) := by have hh : wb0.cell? ⟨g, j * 1 + 0, none⟩ = some (.slice A0 n0 c0) := HO1.out.cell HLJ.out (i := 0) rfl; rwa [Nat.mul_one, Nat.add_zero] at hh
      go_wp2_with fail
      clear kc0
      have HX1 := Lib.hid (take_snoc HX.out)
      have HEND := Lib.hid (show t0 = q + (sumT bytes.tot (xs.take (j + 1)) : Nat) by rw [HX1.out, sumT_snoc]; have a1 := HTT.out; have a2 : True := trivial; have b0 := Ht0.out; omega)
      have HCL := Lib.hid (show OO rowB wb0 lo hi fp (.slice (some ⟨g, 0, none⟩) n c) (l.map (·.x) ++ bytes.mkx t x :: r.map (·.x)) by
          have hm : bytes.mkx t x = (bytes.mkx t x) := by rfl
          rw [hm]
          have ho := bytes_mk (x := (bytes.mkx t x)) N0_1.out (by rw [← HFF.out]; exact HNN.out)
          rw [← HFF.out] at ho
          exact Hole.close (u := (.slice A0 n0 c0)) HO1.out ho.1 (oneB _ _ _) HFP.out HNF.out HALL.out (by have a1 := HHI.out; have a2 := K1.out.size; have a3 := KH.out; omega))
      go_roundw
      case rel => exact ⟨j + 1, by go_num, by rw [HEND.out], by omega, by rw [← round_mk HX.out (show (l.map (·.x)).length = j by rw [List.length_map]; exact HLJ.out) HSP.out, HTT.out]; exact HCL.out, K1.out⟩
      case measure => simp [intOf]; omega
    · have hlt2 : ¬ (j : Int) < n := by omega
      obtain rfl : j = n := by omega
      have HF := Lib.hid (show xs.take j = xs from List.take_of_length_le (by rw [HL.out]; exact Nat.le_refl _))
      have HG := Lib.hid (show t = q + (sumT bytes.tot xs : Nat) by rw [← HTT.out, HF.out])
      have HE := Lib.hid (show OO rowB wr lo hi fp (.slice A j c) (mks bytes.mkx bytes.tot q xs) by have hh := HO.out; rw [HF.out, List.drop_of_length_le (by rw [HL.out]; exact Nat.le_refl _), List.append_nil] at hh; exact hh)
      clear HO
      go_wp2_with fail
      go_ret
      exact ⟨by rw [← HG.out]; rfl, HE.out, K0.out⟩
set_option maxRecDepth 100000 in
set_option maxHeartbeats 4000000 in
theorem heldByteSS {w : World} {lo hi : Nat} {v : Value} {xs : List (List Int)} (q : Int) (h : RR rowB w lo hi v (rowB.mkx q xs)) (hq : 0 ≤ q ∧ q + (rowB.tot xs : Nat) ≤ 1099511627776) (hs : rowB.sz xs ≤ 67108864) :
    Calls Try.prog 43 #[v, .int .i64 q] w (NPost (q + (rowB.tot xs : Nat)) w) := by
  obtain ⟨A, n, c, rfl, hl, hnc, hcm⟩ := row_open h
  have hl2 : xs.length = n := by rw [← hl]; exact (mks_len bytes.mkx bytes.tot xs q).symm
  have HL := Lib.hid hl2
  have hq9 : 0 ≤ q ∧ q + (sumT bytes.tot xs : Nat) ≤ 1099511627776 := hq
  have HQ := Lib.hid hq9
  have hs9 : xs.length + sumT bytes.sz xs ≤ 67108864 := hs
  have HBD := Lib.hid (show ∀ y ∈ xs, bytes.sz y ≤ 67108864 from fun y hy => by have := sumT_mem bytes.sz hy; omega)
  have H0 := Lib.hid h
  show Calls Try.prog 43 #[.slice A n c, .int .i64 q] w (NPost (q + (sumT bytes.tot xs : Nat)) w)
  clear h hq hq9 hs hs9 hl hl2
  go_enter Try.func43, Try.ntmps43
  go_wp2_with fail
  go_loopw [1, 5] (fun q2 i wr => ∃ j : Nat, i = .int .i64 j ∧ q2 = .int .i64 (q + (sumT bytes.tot (xs.take j) : Nat)) ∧ j ≤ n ∧ Below w.heap.size w wr) (fun _ i _ => n - (intOf i).toNat)
  case atStart => exact ⟨0, rfl, by simp [sumT], by omega, Below.refl _ _⟩
  case round =>
    obtain ⟨j, rfl, rfl, hj, hb⟩ := hrel
    obtain ⟨t, hq⟩ : ∃ t, q + (sumT bytes.tot (xs.take j) : Nat) = t := ⟨_, rfl⟩
    have HTT := Lib.hid hq
    have HB := Lib.hid hb
    have HR := Lib.hid (H0.out.below hb)
    have hb1 : 0 ≤ t ∧ t ≤ 1099511627776 := by have a1 := HQ.out; have a2 := sumT_take bytes.tot xs j; omega
    rw [hq]
    clear hb hq
    by_cases hlt : j < n
    · have hlt2 : (j : Int) < n := by omega
      obtain ⟨x, hx⟩ : ∃ x, xs[j]? = some x := ⟨_, List.getElem?_eq_getElem (by rw [HL.out]; exact hlt)⟩
      have HX := Lib.hid hx
      have HSX := Lib.hid (HBD.out x (List.mem_of_getElem? hx))
      have hend : t + (bytes.tot x : Nat) ≤ 1099511627776 := by have a1 := HQ.out; have a2 := sumT_take bytes.tot xs (j + 1); rw [take_snoc hx, sumT_snoc] at a2; have a3 := HTT.out; omega
      have HND := Lib.hid hend
      obtain ⟨b, off, y, u, hA, hy, hb1_, hb2_, hr, hu⟩ := row_at HR.out hlt
      obtain rfl : y = bytes.mkx t x := by have hy : (mks bytes.mkx bytes.tot q xs)[j]? = some y := hy; rw [mks_at bytes.mkx bytes.tot hx, HTT.out] at hy; exact (Option.some.inj hy).symm
      obtain ⟨A0, n0, c0, rfl, g0⟩ := bytes_r hu
      subst hA
      have kc0 : wr.cell? ⟨b, off + j, none⟩ = some (.slice A0 n0 c0) := by have hh : wr.cell? ⟨b, off + j * 1 + 0, none⟩ = some (.slice A0 n0 c0) := hr 0 _ rfl; rwa [Nat.mul_one, Nat.add_zero] at hh
      have P0 := Lib.hid g0
      obtain ⟨t0, ht0⟩ : ∃ y : Int, t + (bytes.tot x : Nat) = y := ⟨_, rfl⟩
      have Ht0 := Lib.hid ht0
      have HK0 := Lib.hid (show 0 ≤ t ∧ t + (bytes.tot x : Nat) ≤ 1099511627776 by have a1 := HND.out; have a2 : True := trivial; omega)
      have HZ0 := Lib.hid (show bytes.sz x ≤ 67108864 by have a1 := HSX.out; have a2 : True := trivial; omega)
      have hbt0 : 0 ≤ t0 ∧ t0 ≤ 1099511627776 := by have a1 := HK0.out; omega
      clear ht0
      clear hu hy hr g0 hx
      go_wp2_with fail
      (with_reducible refine (heldByteS t P0.out HK0.out HZ0.out).mono ?_)
      rw [Ht0.out]
      rintro e wh0 ⟨rfl, hb⟩
      replace kc0 := (hb.cell (World.block_lt_of_cell? _ _ kc0)).trans kc0
      have P0 := Lib.hid (P0.out.below hb)
      have HB0 := Lib.hid (HB.out.trans (hb.mono HB.out.size))
      clear hb HB 
      have hng1 : ¬ t0 < 0 := by omega
      go_wp2_with fail
      have HEND := Lib.hid (show t0 = q + (sumT bytes.tot (xs.take (j + 1)) : Nat) by rw [take_snoc HX.out, sumT_snoc]; have a1 := HTT.out; have a2 : True := trivial; have b0 := Ht0.out; omega)
      go_roundw
      case rel => exact ⟨j + 1, by go_num, by rw [HEND.out], by omega, HB0.out⟩
      case measure => simp [intOf]; omega
    · have hlt2 : ¬ (j : Int) < n := by omega
      obtain rfl : j = n := by omega
      have HF := Lib.hid (show xs.take j = xs from List.take_of_length_le (by rw [HL.out]; exact Nat.le_refl _))
      have HG := Lib.hid (show t = q + (sumT bytes.tot xs : Nat) by rw [← HTT.out, HF.out])
      go_wp2_with fail
      go_ret
      exact ⟨by rw [← HG.out]; rfl, HB.out⟩
end Go.Proofs.Ytmmhleobgpgliaa.ux
end

section
namespace Go.Proofs.Ytmmhleobgpgliaa.ro
open Go.RowKit sl harn bx stw
set_option linter.unusedVariables false
open ux (Nf Rob RR OO row rowB rowNf nf rob)
open mrw (blkOf)
open bs (nsq sqd)
set_option linter.unusedSimpArgs false

theorem infoSB : (Try.prog.info? 22).map (fun i => (i.zero, i.size, i.bytes)) = some (some (.slice none 0 0), 1, 24) := by kernel_rfl
theorem szAr : (Try.prog.info? 74).map (·.size) = some 2 := by kernel_rfl
theorem sb_str {x : List Int} (h : Wf .u8 x) : sb (strOfNums x) = x := by
  unfold sb strOfNums
  rw [List.map_map]
  conv => rhs; rw [← List.map_id x]
  refine List.map_congr_left fun z hz => ?_
  show ((UInt8.ofNat z.toNat).toNat : Int) = z
  have h1 := bounds_u8 (h z hz)
  have h2 : (UInt8.ofNat z.toNat).toNat = z.toNat := by
    rw [UInt8.toNat_ofNat']
    omega
  rw [h2]
  omega
theorem conv_back {x : List Int} (hw : Wf .u8 x) (hl : x.length ≤ 1000) (w : World) : ∃ c w2, (convert 9 22 (.string (strOfNums x))).run Try.prog w = .ok (.slice (some ⟨w.heap.size, 0, none⟩) x.length c) w2 ∧ om.Om 5 .u8 w2 w.heap.size (w.heap.size + 1) (some ⟨w.heap.size, 0, none⟩) x.length c x ∧ Below w.heap.size w w2 := by
  have hs : (strOfNums x).size = x.length := strOfNums_size x
  have h1 := run_bytes_of_string (P := Try.prog) w 9 22 5 (strOfNums x) Try.underlying9 Try.underlying22 Try.underlying5
  have hge := grownCap_ge w (strOfNums x).size 0 5
  have hle : grownCap w (strOfNums x).size 0 5 ≤ maxLen := grownCap_le_maxLen w (strOfNums x).size 0 5 (by rw [hs]; unfold maxLen; omega)
  have hm : (strOfNums x).size ≤ (bytesRow (strOfNums x) (grownCap w (strOfNums x).size 0 5)).size := by
    have e : (strOfNums x).data.size = (strOfNums x).size := rfl
    simp only [bytesRow, Array.size_append, Array.size_map, e]
    omega
  have h2 := om.om_bytes (strOfNums x) w 5 _ _ hge hle hm
  rw [sb_str hw] at h2
  rw [hs] at h1 h2
  exact ⟨_, _, h1, h2, ⟨rfl, rfl, rfl, by show w.heap.size ≤ (w.heap.push _).size; simp, fun k hk => by show (w.heap.push _)[k]? = _; rw [Array.getElem?_push, if_neg (by omega)]⟩⟩
/-- What []byte(s) of a body gives, in a world behind W. -/
def bodyv (W : World) (x : List Int) : reg.Stay reg.Bel :=
  ⟨fun v w => ∃ N c, v = .slice (some ⟨N, 0, none⟩) x.length c ∧ W.heap.size ≤ N ∧ om.Om 5 .u8 w N (N + 1) (some ⟨N, 0, none⟩) x.length c x, fun v w w' ⟨N, c, e, h1, h2⟩ hb => ⟨N, c, e, h1, h2.below hb⟩⟩
/-- A new block that holds it alone. -/
def onev (W : World) (x : List Int) : reg.Stay reg.Bel :=
  ⟨fun v w => ∃ q N c, v = .slice (some ⟨q, 0, none⟩) 1 1 ∧ W.heap.size ≤ q ∧ Bx 22 w q #[.slice (some ⟨N, 0, none⟩) x.length c] ∧ W.heap.size ≤ N ∧ om.Om 5 .u8 w N (N + 1) (some ⟨N, 0, none⟩) x.length c x, fun v w w' ⟨q, N, c, e, h0, hX, h1, h2⟩ hb => ⟨q, N, c, e, h0, hX.below hb, h1, h2.below hb⟩⟩
/-- The state of a window in memory: its block, the blocks of what is delivered. -/
def Rv (w : World) (b : Nat) (fp : List Nat) (t : St) : Prop := ∃ A n c, Bx 78 w b (vcs t (.slice A n c)) ∧ OO rowB w 0 w.heap.size fp (.slice A n c) t.out ∧ b ∉ fp ∧ t.ws.length = 16 ∧ (0 ≤ t.s ∧ t.s ≤ 4095) ∧ ∀ x, some x ∈ t.ws → Wf .u8 x ∧ x.length ≤ 100
def AvPost (b : Nat) (fp : List Nat) (t' : St) (w : World) (e : Ending) (w' : World) : Prop := e = .returned (.tuple #[]) ∧ ∃ fp', Rv w' b fp' t' ∧ (∀ q, q ∈ fp' → q ∈ fp ∨ w.heap.size ≤ q) ∧ KS (b :: fp) w w'
theorem av_parts {b : Nat} {fp : List Nat} {t' : St} {w : World} {e : Ending} {w' : World} (h : AvPost b fp t' w e w') : e = .returned (.tuple #[]) ∧ ∃ fp', Rv w' b fp' t' ∧ (∀ q, q ∈ fp' → q ∈ fp ∨ w.heap.size ≤ q) ∧ KS (b :: fp) w w' := h
theorem ks_on {b : Nat} {fp fp1 : List Nat} {w w1 w2 : World} (h1 : KS (b :: fp) w w1) (hf : ∀ q, q ∈ fp1 → q ∈ fp ∨ w.heap.size ≤ q) (h2 : KS (b :: fp1) w1 w2) : KS (b :: fp) w w2 :=
  ⟨h2.os.trans h1.os, h2.tape.trans h1.tape, h2.output.trans h1.output, Nat.le_trans h1.size h2.size, fun k hk hn => (h2.block k (Nat.lt_of_lt_of_le hk h1.size) (fun hm => by
    rcases List.mem_cons.1 hm with e | hm
    · exact hn (by rw [e]; exact List.mem_cons_self)
    · rcases hf k hm with h3 | h3
      · exact hn (List.mem_cons_of_mem _ h3)
      · omega)).trans (h1.block k hk hn)⟩
theorem new_on {fp fp1 fp2 : List Nat} {m m1 : Nat} (h1 : ∀ q, q ∈ fp1 → q ∈ fp ∨ m ≤ q) (hm : m ≤ m1) (h2 : ∀ q, q ∈ fp2 → q ∈ fp1 ∨ m1 ≤ q) : ∀ q, q ∈ fp2 → q ∈ fp ∨ m ≤ q := fun q hq => by
  rcases h2 q hq with h | h
  · exact h1 q h
  · exact .inr (by omega)
theorem ks_grown {w w' : World} {b : Nat} {fp fp0 : List Nat} {A : Option Addr} (hg : w.grownBy w' (blkOf A)) (hA : ∀ q, blkOf A = some q → q ∈ fp) : KS (b :: fp) w w' :=
  ⟨hg.os, hg.tape, hg.output, hg.size, fun k hk hn => hg.block k hk (fun e => hn (List.mem_cons_of_mem _ (hA k e.symm)))⟩
theorem ks_bel2 {w w' : World} (F : List Nat) (hb : Below w.heap.size w w') : KS F w w' := ux.ks_below hb F
theorem Rv.below {w w' : World} {b : Nat} {fp : List Nat} {t : St} (h : Rv w b fp t) (hb : Below w.heap.size w w') : Rv w' b fp t := by
  obtain ⟨A, n, c, h1, h2, h3⟩ := h
  exact ⟨A, n, c, h1.below hb, (h2.below hb).wide (Nat.le_refl _), h3⟩
theorem vcs_put {s : Int} {ws : Win} {out out2 : List (List Int)} {hd hd2 : Value} (h : ws.length = 16) : (vcs ⟨s, ws, out⟩ hd).setIfInBounds 33 hd2 = vcs ⟨s, ws, out2⟩ hd2 := by
  simp only [vcs, List.setIfInBounds_toArray]
  congr 1
  rw [List.set_cons_succ, List.set_append_right _ _ (by rw [wcs_len]; omega), wcs_len, h]; rfl
theorem bods_snoc_none {ws : Win} {j : Nat} (h : ws[j]? = some none) : bods (ws.take (j + 1)) = bods (ws.take j) := by rw [List.take_add_one, h, bods_append]; simp [bods]
theorem bods_snoc_some {ws : Win} {j : Nat} {x : List Int} (h : ws[j]? = some (some x)) : bods (ws.take (j + 1)) = bods (ws.take j) ++ [x] := by rw [List.take_add_one, h, bods_append]; simp [bods]
theorem wcs_drop : ∀ (ws : Win) (k : Nat), (wcs ws).drop (k * 2) = wcs (ws.drop k)
  | _, 0 => by simp
  | [], k + 1 => by simp [wcs]
  | a :: r, k + 1 => by
    have e : (k + 1) * 2 = k * 2 + 1 + 1 := by omega
    rw [e]
    simp only [wcs, List.drop_succ_cons]
    exact wcs_drop r k
theorem wcs_take : ∀ (ws : Win) (k : Nat), (wcs ws).take (k * 2) = wcs (ws.take k)
  | _, 0 => by simp [wcs]
  | [], k + 1 => by simp [wcs]
  | a :: r, k + 1 => by
    have e : (k + 1) * 2 = k * 2 + 1 + 1 := by omega
    rw [e]
    simp only [wcs, List.take_succ_cons]
    rw [wcs_take r k]
theorem zero_cells : ∀ (n : Nat), (Builtin.zeroCells #[.bool false, .string ByteArray.empty] n).toList = wcs (List.replicate n none) := by
  intro n
  apply List.ext_getElem
  · rw [wcs_len]; simp [Builtin.zeroCells]; omega
  · intro i h1 h2
    have h3 : i < n * 2 := by simp [Builtin.zeroCells] at h1; omega
    have h4 : (List.replicate n (none : Option (List Int)))[i / 2]? = some none := by rw [List.getElem?_replicate, if_pos (by omega)]
    have h5 := wcs_at h4
    have h6 : (wcs (List.replicate n none))[i] = if i % 2 = 0 then .bool false else .string (strOfNums []) := by
      apply Option.some.inj
      rw [← List.getElem?_eq_getElem h2]
      split
      · rename_i he
        rw [show i / 2 * 2 = i by omega] at h5; exact h5.1
      · rename_i he
        rw [show i / 2 * 2 + 1 = i by omega] at h5; exact h5.2
    rw [h6]
    rcases Nat.mod_two_eq_zero_or_one i with he | he
    · rw [if_pos he]; simp [Builtin.zeroCells, he]
    · rw [if_neg (by omega)]; simp [Builtin.zeroCells, he]; rfl
theorem slice_tl (b : Nat) {p : Nat} (hp : p ≤ 16) : ∃ ad : Addr, (p < 16 → ad = ⟨b, 1 + p * 2, none⟩) ∧ ∀ W, (Instr.sliceAt 76 (.pointer (some ⟨b, 1, none⟩)) (some (.int .i64 (p : Int))) none none).run Try.prog W = .ok (.slice (some ad) (16 - p) (16 - p)) W := by
  have h1 : (p : Int) ≤ 16 := by omega
  cases hq : Try.prog.info? 74 with
  | none => have := szAr; simp [hq] at this
  | some i =>
    have hi : i.size = 2 := by have := szAr; simpa [hq] using this
    refine ⟨if 16 = p then ⟨b, 1, none⟩ else (⟨b, 1, none⟩ : Addr).add (p * 2), fun h => ?_, fun W => ?_⟩
    · rw [if_neg (by omega)]; simp [Addr.add]
    · simp [Instr.sliceAt, run_underlying Try.underlying76, Instr.sureAddr, Instr.sliceBounds, Instr.sliceBound, sizeOf, typeInfo, hq, hi, go_sem, hp, h1]
theorem slice_all (b : Nat) (W : World) : (Instr.sliceAt 76 (.pointer (some ⟨b, 1, none⟩)) none none none).run Try.prog W = .ok (.slice (some ⟨b, 1, none⟩) 16 16) W := by
  cases hq : Try.prog.info? 74 with
  | none => have := szAr; simp [hq] at this
  | some i =>
    have hi : i.size = 2 := by have := szAr; simpa [hq] using this
    simp [Instr.sliceAt, run_underlying Try.underlying76, Instr.sureAddr, Instr.sliceBounds, Instr.sliceBound, sizeOf, typeInfo, hq, hi, go_sem, Addr.add]
/-- Behind the copy. -/
theorem vcs_copied {s : Int} {ws : Win} {out : List (List Int)} {hd : Value} (h : ws.length = 16) {p : Nat} (hp : p ≤ 16) {cur : Array Value} (hc : cur = vcs ⟨s, ws, out⟩ hd) : (cur.toList.take 1 ++ wcs (ws.drop p) ++ cur.toList.drop (1 + (wcs (ws.drop p)).length)).toArray = vcs ⟨s, ws.drop p ++ ws.drop (16 - p), out⟩ hd := by
  subst hc
  have e : (wcs (ws.drop p)).length = (16 - p) * 2 := by rw [wcs_len, List.length_drop, h]; omega
  rw [e]
  simp only [vcs]
  congr 1
  rw [Nat.add_comm 1, List.drop_succ_cons, List.drop_append, wcs_drop, wcs_append, wcs_len, h, show (16 - p) * 2 - 2 * 16 = 0 by omega]
  simp
/-- Behind the clearing. -/
theorem vcs_cleared {s : Int} {ws : Win} {out : List (List Int)} {hd : Value} (h : ws.length = 16) {p : Nat} (hp : p ≤ 16) {cur : Array Value} (hc : cur = vcs ⟨s, ws.drop p ++ ws.drop (16 - p), out⟩ hd) : (cur.toList.take (1 + (16 - p) * 2) ++ wcs (List.replicate p none) ++ cur.toList.drop (1 + (16 - p) * 2 + (wcs (List.replicate p none)).length)).toArray = vcs ⟨s, ws.drop p ++ List.replicate p none, out⟩ hd := by
  subst hc
  have e : (wcs (List.replicate p none)).length = p * 2 := by rw [wcs_len, List.length_replicate]; omega
  have e2 : (ws.drop p).length = 16 - p := by rw [List.length_drop, h]
  have e3 : (wcs (ws.drop p ++ ws.drop (16 - p))).length = 32 := by rw [wcs_len, List.length_append, e2, List.length_drop, h]; omega
  have d1 : (wcs (ws.drop p ++ ws.drop (16 - p))).drop 32 = [] := List.drop_eq_nil_of_le (by rw [e3]; exact Nat.le_refl _)
  have d2 : (ws.drop p ++ ws.drop (16 - p)).take (16 - p) = ws.drop p := by rw [List.take_append_of_le_length (by omega), List.take_of_length_le (by omega)]
  rw [e]
  simp only [vcs]
  congr 1
  rw [show 1 + (16 - p) * 2 + p * 2 = 32 + 1 by omega, Nat.add_comm 1, List.take_succ_cons, List.drop_succ_cons, List.take_append_of_le_length (by rw [e3]; omega), wcs_take, d2, List.drop_append, d1, e3, wcs_append]
  simp
theorem adv_min {s : Int} {ws : Win} {out : List (List Int)} (h : ws.length = 16) {n p : Nat} (hp : min n 16 = p) : advS ⟨s, ws, out⟩ n = ⟨(s + (n : Int)) % 4096, ws.drop p ++ List.replicate p none, out ++ bods (ws.take p)⟩ := by
  simp only [advS, h, hp]
  by_cases hn : n ≤ 16
  · rw [show p = n by omega]
  · rw [show p = 16 by omega, List.drop_eq_nil_of_le (by omega), List.drop_eq_nil_of_le (by omega), List.take_of_length_le (by omega), List.take_of_length_le (by omega)]
theorem src_cells {w : World} {b : Nat} {s : Int} {ws : Win} {out : List (List Int)} {hd : Value} (hX : Bx 78 w b (vcs ⟨s, ws, out⟩ hd)) (h : ws.length = 16) {p : Nat} {ad : Addr} (had : p < 16 → ad = ⟨b, 1 + p * 2, none⟩) : ∀ j v, (wcs (ws.drop p))[j]? = some v → w.cell? (ad.add j) = some v := by
  intro j v hv
  have hj := (List.getElem?_eq_some_iff.1 hv).1
  rw [wcs_len, List.length_drop, h] at hj
  rw [had (by omega), Addr.add_mid, hX.cell, Nat.add_assoc]
  refine vcs_win ?_
  rw [← wcs_drop, List.getElem?_drop] at hv
  exact hv
theorem zeroAr (w : World) : (zeroValue 74).run Try.prog w = .ok (.agg #[.bool false, .string ByteArray.empty]) w := by
  have h : (Try.prog.info? 74).map (·.zero) = some (some (.agg #[.bool false, .string ByteArray.empty])) := by kernel_rfl
  cases hq : Try.prog.info? 74 with
  | none => simp [hq] at h
  | some i =>
    have hi : i.zero = some (.agg #[.bool false, .string ByteArray.empty]) := by simpa [hq] using h
    simp [zeroValue, typeInfo, hq, hi]
theorem goInt_nat (n : Nat) : goInt n = .int .i64 (n : Int) := rfl
theorem slice_hd (b : Nat) {p : Nat} (hp : p ≤ 16) (W : World) : (Instr.sliceAt 76 (.pointer (some ⟨b, 1, none⟩)) none (some (.int .i64 (p : Int))) none).run Try.prog W = .ok (.slice (some ⟨b, 1, none⟩) p 16) W := by
  have h1 : (p : Int) ≤ 16 := by omega
  cases hq : Try.prog.info? 74 with
  | none => have := szAr; simp [hq] at this
  | some i =>
    have hi : i.size = 2 := by have := szAr; simpa [hq] using this
    simp [Instr.sliceAt, run_underlying Try.underlying76, Instr.sureAddr, Instr.sliceBounds, Instr.sliceBound, sizeOf, typeInfo, hq, hi, go_sem, Addr.add, hp, h1]
set_option maxRecDepth 100000 in
set_option maxHeartbeats 4000000 in
theorem advance (t : St) (n b : Nat) (fp : List Nat) (w : World) (h : Rv w b fp t) (hn : n ≤ 4095) (hq : t.out.length ≤ 1000000) :
    Calls Try.prog 63 #[.pointer (some ⟨b, 0, none⟩), .int .i64 (n : Int)] w (AvPost b fp (advS t n) w) := by
  obtain ⟨s, ws, out⟩ := t
  obtain ⟨A, m, c, hX, ho, hbf, h16, hs, hw⟩ := h
  simp only at hX ho h16 hs hw hq
  obtain ⟨p, hp⟩ : ∃ p, min n 16 = p := ⟨_, rfl⟩
  have hp16 : p ≤ 16 ∧ p ≤ n := by omega
  have HX := Lib.hid hX
  have HO := Lib.hid ho
  have HBF := Lib.hid hbf
  have HL := Lib.hid h16
  have HS := Lib.hid hs
  have HW := Lib.hid hw
  have HQ := Lib.hid hq
  have HN := Lib.hid hn
  have HP := Lib.hid hp
  have HMN := Lib.hid (show (p : Int) = if (16 : Int) < (n : Int) then 16 else (n : Int) by split <;> omega)
  have hsl : ∀ W, (Instr.sliceAt 76 (.pointer (some ⟨b, 1, none⟩)) none (some (.int .i64 (p : Int))) none).run Try.prog W = .ok (.slice (some ⟨b, 1, none⟩) p 16) W := fun W => slice_hd b hp16.1 W
  clear hX ho hbf h16 hs hw hq hn hp
  obtain ⟨hp1, hp2⟩ := hp16
  go_enter Try.func63, Try.ntmps63
  go_wp2_with fail
  (with_reducible refine (rng.implMin (n : Int) 16 (p : Int) HMN.out _).mono ?_)
  rintro e w0 ⟨rfl, hb0⟩
  have HR0 := Lib.hid (Rv.below ⟨A, m, c, HX.out, HO.out, HBF.out, HL.out, HS.out, HW.out⟩ hb0)
  have HK0 := Lib.hid (ks_bel2 (b :: fp) hb0)
  have HSZ := Lib.hid hb0.size
  clear hb0
  go_wp2_with fail
  clear hsl
  go_loopw [16] (fun i wr => ∃ (j : Nat) (f : List Nat), i = .int .i64 j ∧ j ≤ p ∧ Rv wr b f ⟨s, ws, out ++ bods (ws.take j)⟩ ∧ (∀ q, q ∈ f → q ∈ fp ∨ w.heap.size ≤ q) ∧ KS (b :: fp) w wr) (fun i _ => p - (intOf i).toNat)
  case atStart => exact ⟨0, fp, rfl, by omega, by simpa [bods] using HR0.out, fun q hq => .inl hq, HK0.out⟩
  case round =>
    obtain ⟨j, f, rfl, hj, hr, hf, hk⟩ := hrel
    have HR := Lib.hid hr
    have HF := Lib.hid hf
    have HK := Lib.hid hk
    clear hr hf hk
    by_cases hlt : j < p
    · have hlt2 : (j : Int) < p := by omega
      obtain ⟨A1, m1, c1, hX1, ho1, hbf1, _⟩ := HR.out
      simp only at hX1 ho1
      have HX1 := Lib.hid hX1
      have HO1 := Lib.hid ho1
      have HBF1 := Lib.hid hbf1
      obtain ⟨o, ho⟩ : ∃ o, ws[j]? = some o := ⟨_, List.getElem?_eq_getElem (by have := HL.out; omega)⟩
      have HE := Lib.hid ho
      have c0 : wr.cell? ⟨b, 1 + j * 2, none⟩ = some (.bool o.isSome) := by rw [hX1.cell]; exact vcs_win (wcs_at ho).1
      have c1_ : wr.cell? ⟨b, 1 + j * 2 + 1, none⟩ = some (.string (strOfNums (o.getD []))) := by rw [hX1.cell, Nat.add_assoc]; exact vcs_win (wcs_at ho).2
      clear hX1 ho1 hbf1 ho
      cases o with
      | none =>
        go_wp2_with fail
        have hbW : Below wr.heap.size wr (wr.alloc (.cells #[.bool false, .string (strOfNums [])] 74)) := below_box _ _
        go_roundw
        case rel => exact ⟨j + 1, f, by go_num, by omega, by have hh := HR.out.below hbW; rw [bods_snoc_none HE.out]; exact hh, HF.out, HK.out.trans (ks_bel2 _ hbW)⟩
        case measure => simp [intOf]; omega
      | some x =>
        go_wp2_with fail
        have HWX := Lib.hid (HW.out x (List.mem_of_getElem? HE.out))
        have hX6 : Bx 74 (wr.alloc (.cells #[.bool true, .string (strOfNums x)] 74)) wr.heap.size #[.bool true, .string (strOfNums x)] := Bx.made _ _ _
        have hbW : Below wr.heap.size wr (wr.alloc (.cells #[.bool true, .string (strOfNums x)] 74)) := below_box _ _
        have HM := Lib.hid (show m1 ≤ 1000016 by obtain ⟨_, _, _, e9, h9, _⟩ := ux.row_open (show RR (row 22 ux.bytes) wr 0 wr.heap.size (.slice A1 m1 c1) _ from HO1.out.rd); injection e9 with _ e9 _; rw [e9, ← h9, List.length_append]; have h8 := bods_len (ws.take j); rw [List.length_take] at h8; have h7 := HQ.out; omega)
        clear c0 c1_
        obtain ⟨g6, hg6⟩ : ∃ g, wr.heap.size = g := ⟨_, rfl⟩
        obtain ⟨W, hW⟩ : ∃ W, wr.alloc (.cells #[.bool true, .string (strOfNums x)] 74) = W := ⟨_, rfl⟩
        rw [hW] at hX6 hbW ⊢
        rw [hg6] at hX6 ⊢
        have HX6 := Lib.hid hX6
        have HBW := Lib.hid hbW
        have HG6 := Lib.hid hg6
        have HX2 := Lib.hid (HX1.out.below hbW)
        have HO2 := Lib.hid (HO1.out.below hbW)
        have HLB := Lib.hid HX1.out.lt
        clear hX6 hbW hW hg6
        obtain ⟨i0, hi0, hz0, hz1, hz2⟩ := info_parts infoSB
        have HZ := Lib.hid (And.intro hi0 (And.intro hz0 (And.intro hz1 hz2)))
        clear hi0 hz0 hz1 hz2
        have HG := Lib.hid (show g6 ∉ f from fun hm => by have h8 := (HO2.out.2.1 g6 hm).2; have h9 := HG6.out; omega)
        refine rgp.region_tailE (rgp.EA 9 reg.Bel (ux.ApU ux.bytes 22 wr.heap.size f A1 m1 c1 (out ++ bods (ws.take j)))) 10 59 [some [], some [], some [(1, 23)], some [(2, 24)], some [(3, 25)], some [], some [(5, 27)], some [(6, 28)], some [(7, 29)], some [(4, 26), (8, 30)], none, none, none] [(0, 22), (1, 23), (2, 24), (3, 25), (4, 26), (5, 27), (6, 28), (7, 29), (8, 30), (9, 31)]
          (ux.CU ux.bytes 22 wr.heap.size f A1 m1 c1 (out ++ bods (ws.take j)) W)
          (rgp.RA 9 [rgp.is (.pointer (some ⟨b, 0, none⟩)), rgp.is (.pointer (some ⟨b, 0, none⟩)), rgp.is (.pointer (some ⟨b, 0, none⟩)), rgp.is (.pointer (some ⟨b, 33, none⟩)), rgp.is (.slice A1 m1 c1), rgp.is (.pointer (some ⟨g6, 1, none⟩)), rgp.is (.string (strOfNums x)), ux.elU ux.bytes 22 wr.heap.size f A1 m1 c1 (out ++ bods (ws.take j)) ux.bytes (x), ux.oneU ux.bytes 22 wr.heap.size f A1 m1 c1 (out ++ bods (ws.take j)) (x), rgp.val fun _ => True] (ux.newU ux.bytes 22 wr.heap.size f m1 (out ++ bods (ws.take j)) (x)))
          (by kernel_rfl) rfl (by kernel_rfl) (by kernel_rfl) rfl
          (ux.cu_keep ux.bytes 22 wr.heap.size f A1 m1 c1 (out ++ bods (ws.take j)) 9 W)
          (rgp.ra_keep (ux.newU_keep ux.bytes 22 wr.heap.size f m1 (out ++ bods (ws.take j)) (x))) (ux.cu_start ux.bytes 22 wr.heap.size f A1 m1 c1 (out ++ bods (ws.take j)) HO2.out) (by kernel_rfl) ⟨?_, ?_, ?_, ?_, ?_, ?_, ?_, ?_, ?_, ?_, trivial⟩ ?_
        · refine fun w8 hc  K hK => ?_
          (try simp only [Act.put, List.setIfInBounds_toArray, List.set_cons_zero, List.set_cons_succ])
          go_simp
          exact hK (.pointer (some ⟨b, 0, none⟩)) _ (rgp.ra1 rfl rfl) (rgp.ea1 rfl (Below.refl _ _))
        · refine fun w8 hc  K hK => ?_
          (try simp only [Act.put, List.setIfInBounds_toArray, List.set_cons_zero, List.set_cons_succ])
          go_simp
          exact hK (.pointer (some ⟨b, 0, none⟩)) _ (rgp.ra1 rfl rfl) (rgp.ea1 rfl (Below.refl _ _))
        · refine fun w8 hc v1 h1 K hK => ?_
          have h1 := rgp.ra1_out rfl h1
          obtain rfl : v1 = .pointer (some ⟨b, 0, none⟩) := h1
          (try simp only [Act.put, List.setIfInBounds_toArray, List.set_cons_zero, List.set_cons_succ])
          go_simp
          exact hK (.pointer (some ⟨b, 0, none⟩)) _ (rgp.ra1 rfl rfl) (rgp.ea1 rfl (Below.refl _ _))
        · refine fun w8 hc v2 h2 K hK => ?_
          have h2 := rgp.ra1_out rfl h2
          obtain rfl : v2 = .pointer (some ⟨b, 0, none⟩) := h2
          (try simp only [Act.put, List.setIfInBounds_toArray, List.set_cons_zero, List.set_cons_succ])
          go_simp
          exact hK (.pointer (some ⟨b, 33, none⟩)) _ (rgp.ra1 rfl rfl) (rgp.ea1 rfl (Below.refl _ _))
        · refine fun w8 hc v3 h3 K hK => ?_
          have h3 := rgp.ra1_out rfl h3
          obtain rfl : v3 = .pointer (some ⟨b, 33, none⟩) := h3
          (try simp only [Act.put, List.setIfInBounds_toArray, List.set_cons_zero, List.set_cons_succ])
          have c0 : w8.cell? ⟨b, 33, none⟩ = some (.slice A1 m1 c1) := by rw [(ux.bx_ks HX2.out hc.1 HBF1.out).cell]; exact vcs_hd HL.out
          go_simp
          exact hK (.slice A1 m1 c1) _ (rgp.ra1 rfl rfl) (rgp.ea1 rfl (Below.refl _ _))
        · refine fun w8 hc  K hK => ?_
          (try simp only [Act.put, List.setIfInBounds_toArray, List.set_cons_zero, List.set_cons_succ])
          go_simp
          exact hK (.pointer (some ⟨g6, 1, none⟩)) _ (rgp.ra1 rfl rfl) (rgp.ea1 rfl (Below.refl _ _))
        · refine fun w8 hc v5 h5 K hK => ?_
          have h5 := rgp.ra1_out rfl h5
          obtain rfl : v5 = .pointer (some ⟨g6, 1, none⟩) := h5
          (try simp only [Act.put, List.setIfInBounds_toArray, List.set_cons_zero, List.set_cons_succ])
          have c0 : w8.cell? ⟨g6, 1, none⟩ = some (.string (strOfNums x)) := (ux.bx_ks HX6.out hc.1 HG.out).cell 1
          go_simp
          exact hK (.string (strOfNums x)) _ (rgp.ra1 rfl rfl) (rgp.ea1 rfl (Below.refl _ _))
        · refine fun w8 hc v6 h6 K hK => ?_
          have h6 := rgp.ra1_out rfl h6
          obtain rfl : v6 = .string (strOfNums x) := h6
          (try simp only [Act.put, List.setIfInBounds_toArray, List.set_cons_zero, List.set_cons_succ])
          obtain ⟨cN, w5, hrun, hom, hb5⟩ := conv_back HWX.out.1 (by have := HWX.out.2; omega) w8
          go_simp
          exact hK _ _ (rgp.ra1 rfl ⟨_, _, _, hc.2.hi_, ux.num_om hom⟩) (rgp.ea1 rfl hb5)
        · refine fun w8 hc v7 h7 K hK => ?_
          have h7 := rgp.ra1_out rfl h7
          obtain ⟨fe7, lo7, hi7, hl7, ho7⟩ := h7
          obtain ⟨Ae7, ne7, ce7, rfl⟩ := ux.bytes_slo ho7.1
          (try simp only [Act.put, List.setIfInBounds_toArray, List.set_cons_zero, List.set_cons_succ])
          go_simp
          exact hK (.slice (some ⟨w8.heap.size, 0, none⟩) 1 1) _ (rgp.ra1 rfl ⟨w8.heap.size, 1, .slice Ae7 ne7 ce7, fe7, lo7, hi7, rfl, hc.2.hi_, Bx.made _ _ _, hl7, ho7.below (below_box _ _)⟩) (rgp.ea1 rfl (below_box _ _))
        · refine fun w8 hc v4 h4 v8 h8 K hK => ?_
          have h4 := rgp.ra1_out rfl h4
          obtain rfl : v4 = .slice A1 m1 c1 := h4
          have h8 := rgp.ra1_out rfl h8
          obtain ⟨q8, cq8, u8, fe8, lo8, hi8, rfl, hq8, hX8, hl8, ho8⟩ := h8
          (try simp only [Act.put, List.setIfInBounds_toArray, List.set_cons_zero, List.set_cons_succ])
          rw [if_pos (by rfl)]
          refine ux.wp_push (S := ux.bytes) (T := 22) _ _ 33 rfl Try.underlying33 HZ.out.1 HZ.out.2.1 HZ.out.2.2.1 (by rw [HZ.out.2.2.2]; omega) rfl rfl rfl hc.2 (x) ho8 hl8 hX8 (by have := HM.out; omega) ?_
          intro A4 c4 w4 hn4 hp4
          exact hK _ _ (rgp.ra2 hn4) (rgp.ea2 hp4)
        refine fun w9 hc v0 h0 v1 h1 v2 h2 v3 h3 v4 h4 v5 h5 v6 h6 v7 h7 v8 h8 v9 h9 => ?_
        have h0 := rgp.ra1_out rfl h0
        obtain rfl : v0 = .pointer (some ⟨b, 0, none⟩) := h0
        have h1 := rgp.ra1_out rfl h1
        obtain rfl : v1 = .pointer (some ⟨b, 0, none⟩) := h1
        have h2 := rgp.ra1_out rfl h2
        obtain rfl : v2 = .pointer (some ⟨b, 0, none⟩) := h2
        have h3 := rgp.ra1_out rfl h3
        obtain rfl : v3 = .pointer (some ⟨b, 33, none⟩) := h3
        have h4 := rgp.ra1_out rfl h4
        obtain rfl : v4 = .slice A1 m1 c1 := h4
        have h5 := rgp.ra1_out rfl h5
        obtain rfl : v5 = .pointer (some ⟨g6, 1, none⟩) := h5
        have h6 := rgp.ra1_out rfl h6
        obtain rfl : v6 = .string (strOfNums x) := h6
        have h7 := rgp.ra1_out rfl h7
        obtain ⟨fe7, lo7, hi7, hl7, ho7⟩ := h7
        obtain ⟨Ae7, ne7, ce7, rfl⟩ := ux.bytes_slo ho7.1
        have h8 := rgp.ra1_out rfl h8
        obtain ⟨q8, cq8, u8, fe8, lo8, hi8, rfl, hq8, hX8, hl8, ho8⟩ := h8
        have h9 := rgp.ra2_out h9
        obtain ⟨A3, c3, f3, hi3, rfl, hO3, hf3⟩ := h9
        (try simp only [reg.Obs])
        (try simp only [Act.put, List.setIfInBounds_toArray, List.set_cons_zero, List.set_cons_succ])
        simp only [List.drop_succ_cons, List.drop_zero]
        have HX3 := Lib.hid (ux.bx_ks HX2.out hc.1 HBF1.out)
        have HO3 := Lib.hid hO3
        have HBF2 := Lib.hid (show b ∉ f3 from fun hm => by rcases hf3 b hm with h9 | h9; exact HBF1.out h9; (have := HLB.out; have := HG6.out; omega))
        have HK3 := Lib.hid (show KS (b :: f) wr w9 from (ks_bel2 _ HBW.out).trans (ux.ks_more hc.1 fun q h => List.mem_cons_of_mem _ h))
        have HF3 := Lib.hid (show ∀ q, q ∈ f3 → q ∈ f ∨ wr.heap.size ≤ q from fun q hq => by rcases hf3 q hq with h9 | h9; exact .inl h9; (have := HG6.out; exact .inr (by omega)))
        have HKS := Lib.hid HK.out.size
        clear hO3 hf3 hc
        have c33 : w9.cell? ⟨b, 33, none⟩ = some (.slice A1 m1 c1) := by rw [HX3.out.cell]; exact vcs_hd HL.out
        have f33 : w9.frozen? ⟨b, 33, none⟩ = false := HX3.out.free _
        go_wp2_with fail
        go_roundw
        case rel => exact ⟨j + 1, f3, by go_num, by omega, ⟨A3, m1 + 1, c3, by have hh := HX3.out.set 33 (.slice A3 (m1 + 1) c3); rw [vcs_put HL.out] at hh; exact hh, by have hh := HO3.out.ks (ux.ks_set (F := [b]) (List.mem_singleton.2 rfl) 33 (.slice A3 (m1 + 1) c3)) (fun q h8 h9 => HBF2.out (by rw [← List.mem_singleton.1 h9]; exact h8)); rw [bods_snoc_some HE.out, ← List.append_assoc]; exact hh.wide (Nat.le_refl _), HBF2.out, HL.out, HS.out, HW.out⟩, new_on HF.out HKS.out HF3.out, ks_on HK.out HF.out (HK3.out.trans (ux.ks_set List.mem_cons_self _ _))⟩
        case measure => simp [intOf]; omega
    · obtain rfl : p = j := by omega
      have hlt2 : ¬ (p : Int) < p := by omega
      obtain ⟨A1, m1, c1, hX1, ho1, hbf1, _⟩ := HR.out
      simp only at hX1 ho1
      have HO1 := Lib.hid ho1
      have HBF1 := Lib.hid hbf1
      have HX1 := Lib.hid (show Bx 78 wr.drew b (vcs ⟨s, ws, out ++ bods (ws.take p)⟩ (.slice A1 m1 c1)) from hX1.same rfl)
      have HK1 := Lib.hid (show KS [b] wr wr.drew from ⟨rfl, rfl, rfl, Nat.le_refl _, fun _ _ _ => rfl⟩)
      clear hX1 ho1 hbf1
      obtain ⟨l, hl⟩ : ∃ l, 16 - p = l := ⟨_, rfl⟩
      obtain ⟨ad1, had1, hs1⟩ := slice_tl b hp1
      obtain ⟨ad2, had2, hs2⟩ := slice_tl b (show l ≤ 16 by omega)
      have hs0 := slice_all b
      have hlp : 16 - l = p := by omega
      have hl16 : l ≤ 16 := by omega
      rw [hl] at hs1
      rw [hlp] at hs2
      have HAD1 := Lib.hid had1
      have HAD2 := Lib.hid had2
      have HLP := Lib.hid hlp
      have HLL := Lib.hid hl
      clear had1 had2 hlp hl
      have HZV := Lib.hid zeroAr
      go_upto_region 7 with fail
      go_still_tail 9, (by kernel_rfl)
      change wpList _ _ _ _ _ wr.drew
      obtain ⟨w1, hw1⟩ : ∃ w1, wr.drew = w1 := ⟨_, rfl⟩
      rw [hw1] at HX1 HK1 ⊢
      clear hw1 hs0 hs1
      refine list_copyB rfl _ _ 103 rfl 74 Try.underlying103 2 szAr b 1 16 16 ad1 l l rfl rfl (by omega) 78 _ HX1.out (wcs (ws.drop p)) (by rw [wcs_len, List.length_drop, HL.out]; have := HLL.out; omega) (src_cells HX1.out HL.out HAD1.out) (by rw [wcs_len, List.length_drop, vcs_size HL.out, HL.out]; omega) (wcs_one _) ?_
      intro w2 hX2 hk2
      rw [vcs_copied HL.out hp1 rfl, HLL.out] at hX2
      have HX2 := Lib.hid hX2
      have HK2 := Lib.hid (HK1.out.trans hk2)
      clear hX2 hk2 HX1 HK1
      rw [goInt_nat]
      obtain ⟨w3, hclr, hX3, hk3⟩ := run_clearB (P := Try.prog) (w := w2) 103 0 74 Try.underlying103 #[.bool false, .string ByteArray.empty] HZV.out b (1 + l * 2) p p ad2 (fun h => HAD2.out (by have := HLP.out; omega)) 78 _ HX2.out (wcs (List.replicate p none)) (zero_cells p) (by rw [wcs_len, List.length_replicate, vcs_size (by simp; have := HL.out; have := HLL.out; omega)]; have := HLL.out; omega) (wcs_one _) (fun h => by subst h; rfl)
      have hX3 : Bx 78 w3 b (vcs ⟨s, ws.drop p ++ List.replicate p none, out ++ bods (ws.take p)⟩ (.slice A1 m1 c1)) := by rw [← HLL.out] at hX3; rw [vcs_cleared HL.out hp1 (by rw [HLL.out])] at hX3; exact hX3
      have HX3 := Lib.hid hX3
      have HK3 := Lib.hid (HK2.out.trans hk3)
      clear hX3 hk3
      have c0 : w3.cell? ⟨b, 0, none⟩ = some (.int .i64 s) := HX3.out.cell 0
      have f0 : w3.frozen? ⟨b, 0, none⟩ = false := HX3.out.free 0
      go_wp2_with fail
      (with_reducible refine (bs.seqA s (n : Int) _ HS.out ⟨by omega, by have := HN.out; omega⟩).mono ?_)
      rintro e w4 ⟨rfl, rfl⟩
      go_wp2_with fail
      have HKE := Lib.hid (HK3.out.trans (ux.ks_set (F := [b]) (List.mem_singleton.2 rfl) 0 (.int .i64 ((s + (n : Int)) % 4096))))
      refine bodyPost_end (results_none rfl _ _ _) rfl ⟨rfl, f, ⟨A1, m1, c1, by rw [adv_min HL.out HP.out]; exact HX3.out.set 0 _, by rw [adv_min HL.out HP.out]; exact (HO1.out.ks HKE.out (fun q h8 h9 => HBF1.out (by rw [← List.mem_singleton.1 h9]; exact h8))).wide (Nat.le_refl _), HBF1.out, by rw [adv_len]; exact HL.out, adv_s _ _, fun x hx => HW.out x ?_⟩, HF.out, ks_on HK.out HF.out (ux.ks_more HKE.out (fun q h => by rw [List.mem_singleton.1 h]; exact List.mem_cons_self))⟩
      rcases take_mem hx with h9 | h9
      · exact h9
      · cases h9
end Go.Proofs.Ytmmhleobgpgliaa.ro
end

section
namespace Go.Proofs.Ytmmhleobgpgliaa.ro
open Go.RowKit sl harn bx stw
open ux (Nf Rob RR OO row rowB rowNf nf rob)
open bs (nsq sqd)
set_option linter.unusedVariables false
set_option linter.unusedSimpArgs false

def sAt (w : World) (b : Nat) : Int := intOf ((w.cell? ⟨b, 0, none⟩).getD undef)
theorem sAt_of {w : World} {b : Nat} {fp : List Nat} {t : St} (h : Rv w b fp t) : sAt w b = t.s := by
  obtain ⟨A, n, c, hX, _⟩ := h
  unfold sAt
  rw [hX.cell]; rfl
theorem adv_out (t : St) (k : Nat) : (advS t k).out.length ≤ t.out.length + t.ws.length := by
  simp only [advS, List.length_append]
  have := bods_len (t.ws.take k)
  rw [List.length_take] at this
  omega
set_option maxRecDepth 100000 in
set_option maxHeartbeats 4000000 in
theorem ready (t : St) (b : Nat) (fp : List Nat) (w : World) (h : Rv w b fp t) (hq : t.out.length ≤ 900000) :
    Calls Try.prog 65 #[.pointer (some ⟨b, 0, none⟩)] w (AvPost b fp (runS t) w) := by
  have HR0 := Lib.hid h
  have HQ := Lib.hid hq
  have HL := Lib.hid (show t.ws.length = 16 from by obtain ⟨_, _, _, _, _, _, h4, _⟩ := h; exact h4)
  have HS := Lib.hid (show 0 ≤ t.s ∧ t.s ≤ 4095 from by obtain ⟨_, _, _, _, _, _, _, h5, _⟩ := h; exact h5)
  have HRD := Lib.hid (rdy_le t.ws)
  clear h hq
  go_enter Try.func65, Try.ntmps65
  go_wp2_with fail
  go_loopw [] (fun wr => ∃ (k : Nat) (f : List Nat), k ≤ rdy t.ws ∧ Rv wr b f (advS t k) ∧ (∀ q, q ∈ f → q ∈ fp ∨ w.heap.size ≤ q) ∧ KS (b :: fp) w wr) (fun wr => ((t.s + 20 - sAt wr b) % 4096).toNat)
  case atStart => exact ⟨0, fp, Nat.zero_le _, by rw [adv_zero HS.out]; exact HR0.out, fun q hq => .inl hq, KS.refl _ _⟩
  case round =>
    obtain ⟨k, f, hk, hr, hf, hks⟩ := hrel
    have HR := Lib.hid hr
    have HF := Lib.hid hf
    have HK := Lib.hid hks
    have HKL := Lib.hid hk
    obtain ⟨A1, m1, c1, hX1, _, _, hl1, _⟩ := hr
    have HX1 := Lib.hid hX1
    have HL1 := Lib.hid hl1
    have HH := Lib.hid (adv_head HL.out k)
    clear hX1 hl1 hf hks hk
    by_cases hlt : k < rdy t.ws
    · have HE := Lib.hid (show ∃ x, (advS t k).ws[0]? = some (some x) by
        obtain ⟨x, hx⟩ := rdy_at hlt
        rw [HH.out, if_pos (by have := HRD.out; have := HL.out; omega)]; exact ⟨x, hx⟩)
      have c0 : wr.cell? ⟨b, 1, none⟩ = some (.bool true) := by
        obtain ⟨x, hx⟩ := HE.out
        rw [HX1.out.cell]
        exact vcs_win (i := 0) (wcs_at hx).1
      go_wp2_with fail
      have HA : Calls Try.prog 63 #[.pointer (some ⟨b, 0, none⟩), .int .i64 1] wr (AvPost b f (advS (advS t k) 1) wr) := (advance (advS t k) 1 b f wr HR.out (by omega) (by have h1 := adv_out t k; have h2 := HQ.out; have h3 := HL.out; omega))
      have HA := Lib.hid HA
      (with_reducible refine HA.out.mono ?_)
      rintro e w2 hp
      obtain ⟨rfl, f2, hr2, hf2, hk2⟩ := av_parts hp
      rw [adv_step (by have := HRD.out; omega)] at hr2
      have HM := Lib.hid (show ((t.s + 20 - sAt w2 b) % 4096).toNat < ((t.s + 20 - sAt wr b) % 4096).toNat by
        rw [sAt_of hr2, sAt_of HR.out]
        simp only [advS]
        have h1 := HRD.out; have h2 := HL.out; have h3 := HS.out
        push_cast
        omega)
      have HR2 := Lib.hid hr2
      have HF2 := Lib.hid (new_on HF.out HK.out.size hf2)
      have HK2 := Lib.hid (ks_on HK.out HF.out hk2)
      clear hp hr2 hf2 hk2 c0
      go_wp2_with fail
      go_roundw
      case rel => exact ⟨k + 1, f2, by omega, HR2.out, HF2.out, HK2.out⟩
      case measure => exact HM.out
    · have HE := Lib.hid (show k = rdy t.ws by have := HKL.out; omega)
      have c0 : wr.cell? ⟨b, 1, none⟩ = some (.bool false) := by
        have h0 : (advS t k).ws[0]? = some none := by
          rw [HH.out]
          split
          · rename_i h16
            match hx : t.ws[k]? with
            | none => rw [List.getElem?_eq_none_iff] at hx; have := HL.out; omega
            | some none => rfl
            | some (some y) => rw [HE.out] at hx; exact absurd hx (rdy_end _ _)
          · rfl
        rw [HX1.out.cell]
        exact vcs_win (i := 0) (wcs_at h0).1
      go_wp2_with fail
      exact bodyPost_end (results_none rfl _ _ _) rfl ⟨rfl, f, by unfold runS; rw [← HE.out]; exact HR.out, HF.out, HK.out⟩
end Go.Proofs.Ytmmhleobgpgliaa.ro
end

section
namespace Go.Proofs.Ytmmhleobgpgliaa.mq
open Go.RowKit sl harn bx mrw
set_option linter.unusedVariables false

/-- To, Category, Deadline, Body. -/
abbrev Msg := Int × Int × Int × List Int
def zm : Msg := (0, 0, 0, [])
/-- The value of a message, of a queue. -/
abbrev mV (x : Msg) (A : Option Addr) (n c : Nat) : Value := .agg #[.int .i64 x.1, .int .i64 x.2.1, .int .i64 x.2.2.1, .slice A n c]
abbrev qV (A : Option Addr) (n c : Nat) (d : Int) : Value := .agg #[.slice A n c, .int .i64 d]
/-- A message is valid. -/
def vm (x : Msg) : Bool := (decide (0 ≤ x.1 ∧ x.1 ≤ 15) || x.1 == 63) && (decide (0 ≤ x.2.1 ∧ x.2.1 ≤ 3) && (decide (0 ≤ x.2.2.1 ∧ x.2.2.1 ≤ 1000000000000) && decide ((x.2.2.2.length : Int) ≤ 100)))
def vq (ms : List Msg) (d : Int) : Bool := decide (ms.length ≤ 12) && (decide (0 ≤ d) && ms.all vm)
/-- How many of the first k have this category. -/
def cnt (x : Int) (ms : List Msg) : Nat → Nat
  | 0 => 0
  | k + 1 => if (ms.getD k zm).2.1 = x then cnt x ms k + 1 else cnt x ms k
theorem cnt_le (x : Int) (ms : List Msg) : ∀ k, cnt x ms k ≤ k
  | 0 => Nat.le_refl _
  | k + 1 => by
    have := cnt_le x ms k
    unfold cnt
    split <;> omega
/-- Which of the first k is chosen by the order r; -1 if there is none. -/
def bst (r : Int → Int → Bool) (ms : List Msg) : Nat → Int
  | 0 => -1
  | k + 1 => if bst r ms k < 0 then (k : Int) else if r (ms.getD k zm).2.1 (ms.getD (bst r ms k).toNat zm).2.1 = true then (k : Int) else bst r ms k
theorem bst_range (r : Int → Int → Bool) (ms : List Msg) : ∀ k, -1 ≤ bst r ms k ∧ bst r ms k < k ∧ (0 < k → 0 ≤ bst r ms k)
  | 0 => by unfold bst; omega
  | k + 1 => by
    have h := bst_range r ms k
    unfold bst
    split
    · omega
    · split <;> omega
def gt (m e : Int) : Bool := decide (e < m)
def le (m e : Int) : Bool := decide (m ≤ e)
/-- Removal of the element number i. -/
def enq (ms : List Msg) (d : Int) (m : Msg) : List Msg × Int :=
  if vq ms d && vm m then (if (ms ++ [m]).length ≤ 12 then (ms ++ [m], d) else ((ms ++ [m]).eraseIdx (bst le (ms ++ [m]) (ms ++ [m]).length).toNat, IntKind.i64.wrap (d + 1))) else (ms, d)
def tk (ms : List Msg) (i : Int) : List Msg × Msg × Bool := if 0 ≤ i ∧ i < ms.length then (ms.eraseIdx i.toNat, ms.getD i.toNat zm, true) else (ms, zm, false)
/-- Those of the first k that are not expired; the number of dropped ones. -/
def keep (t : Int) (ms : List Msg) : Nat → List Msg
  | 0 => []
  | k + 1 => if (ms.getD k zm).2.2.1 < t then keep t ms k else keep t ms k ++ [ms.getD k zm]
def drp (t : Int) (ms : List Msg) (d : Int) : Nat → Int
  | 0 => d
  | k + 1 => if (ms.getD k zm).2.2.1 < t then IntKind.i64.wrap (drp t ms d k + 1) else drp t ms d k
theorem keep_len (t : Int) (ms : List Msg) : ∀ k, (keep t ms k).length ≤ k
  | 0 => Nat.le_refl _
  | k + 1 => by
    have := keep_len t ms k
    unfold keep
    split
    · omega
    · simp; omega
/-- How much the messages hold. -/
def blk (ms : List Msg) : Nat := (ms.map fun x => x.2.2.2.length).sum
theorem blk_snoc (ms : List Msg) (m : Msg) : blk (ms ++ [m]) = blk ms + m.2.2.2.length := by simp [blk]
theorem getD_of {ms : List Msg} {i : Nat} {x : Msg} (h : ms[i]? = some x) : ms.getD i zm = x := by rw [List.getD_eq_getElem?_getD, h]; rfl
theorem take_snoc {ms : List Msg} {i : Nat} {x : Msg} (h : ms[i]? = some x) : ms.take (i + 1) = ms.take i ++ [x] := by rw [List.take_add_one, h]; rfl

section
variable {w w' : World} {lo hi n cap : Nat} {A : Option Addr} {ms : List Msg}
end
def XPost (x : Msg) (w : World) (e : Ending) (w' : World) : Prop :=
  ∃ A n cap, e = .returned (mV x A n cap) ∧ Ow 5 .u8 w' w.heap.size w'.heap.size A n cap x.2.2.2 ∧ Below w.heap.size w w'
end Go.Proofs.Ytmmhleobgpgliaa.mq
end
