/- Merged texts of this seat. Uh: A row of the call's own with one element taken out: its cells written one by one, its slices changed beside it, and put back. Condition: none. | Uy: Slices of bytes as the harness copies, compares, marks and measures them. Condition: sizes up to 2^26. | Us18: Frames and reassemblies as values of the harness. Condition: none. | Ram: Reassemblies and frames as data. Condition: none. | Ra2: Removal of one reassembly: slices.Delete, withoutMessage. Condition: at most 2^26 messages. | Rgf: Regions that draw their order, each operation with a relation of its own, told in a list: what is right of each value and stays so under what the others may do. Condition: the region's form. | Rgu: Regions that draw their order, with what holds of the world as long as one operation is not done. Condition: the region's form. | Mrf: Two appends behind one another: an empty row gets the first part of a row, then its last part. Condition: together at most 2^30 elements. | Ape: An append onto an empty slice without room: what was there stays; rows of the call's own as values of a region. Condition: none. | Ra1: A reassembly copied, one started. Condition: bodies up to 2^26 bytes. | Ra3: Lists of reassemblies copied, and what is not expired of them. Condition: sizes up to 2^26. -/
import Derived.Deep.Cut
import Derived.Test.YtbkdbdhbmabgcaaG1
import Derived.Test.YtbkdbdhbmabgcaaG2
import Derived.Test.YtbkdbdhbmabgcaaG3
import Derived.Test.YtbkdbdhbmabgcaaG4
section
namespace Go.Proofs.Ytbkdbdhbmabgcaa.ux
open Go.RowKit sl harn bx
set_option linter.unusedVariables false

/-- The row's block: element number l.length consists of the cells ce, whatever they are; the others are as told. -/
def Hole {α : Type} (S : Rep α) (T : TypeId) (w : World) (g n c : Nat) (l r : List (Ue α)) (ce : List Value) : Prop :=
  ∃ cur, w.heap[g]? = some (.cells cur T (0, 0)) ∧ n ≤ c ∧ c ≤ maxLen ∧ cur.size = c * S.n ∧ cur.toList.take (n * S.n) = flt l ++ ce ++ flt r ∧ ce.length = S.n ∧ l.length + r.length + 1 = n ∧
    ∀ e ∈ l ++ r, S.O w e.fp e.v e.x ∧ e.v.cells.size = S.n ∧ e.v.cells.all (·.oneCell') = true ∧ g ∉ e.fp
section
variable {α : Type} {S : Rep α} {T : TypeId} {w w' : World} {lo hi g n c : Nat} {l r : List (Ue α)} {ce : List Value}
theorem Hole.left (h : Hole S T w g n c l r ce) : (flt l).length = l.length * S.n := by
  obtain ⟨cur, _, _, _, _, _, _, _, h8⟩ := h
  exact flt_len l fun e he => (h8 e (List.mem_append_left _ he)).2.1
theorem Hole.cell (h : Hole S T w g n c l r ce) {j i : Nat} (hj : l.length = j) {v : Value} (hv : ce[i]? = some v) : w.cell? ⟨g, j * S.n + i, none⟩ = some v := by
  have hl := h.left
  subst hj
  obtain ⟨cur, h1, h2, h3, h4, h5, h6, h7, h8⟩ := h
  have hi : i < ce.length := (List.getElem?_eq_some_iff.1 hv).1
  have e : (cur.toList.take (n * S.n))[l.length * S.n + i]? = some v := by
    rw [h5, List.append_assoc, List.getElem?_append_right (by omega), hl, Nat.add_sub_cancel_left, List.getElem?_append_left hi]
    exact hv
  rw [List.getElem?_take] at e
  split at e
  · simp only [World.cell?, h1]
    simpa using e
  · cases e
theorem Hole.free (h : Hole S T w g n c l r ce) (i : Nat) : w.frozen? ⟨g, i, none⟩ = false := by
  obtain ⟨cur, h1, _⟩ := h
  simp [World.frozen?, h1]
theorem Hole.ks (h : Hole S T w g n c l r ce) {f : List Nat} (hb : stw.KS f w w') (hg : g ∉ f) (hd : ∀ e ∈ l ++ r, ∀ b, b ∈ e.fp → b ∉ f) : Hole S T w' g n c l r ce := by
  obtain ⟨cur, h1, h2, h3, h4, h5, h6, h7, h8⟩ := h
  exact ⟨cur, by rw [hb.block g (lt_of_block h1) hg]; exact h1, h2, h3, h4, h5, h6, h7, fun e he => ⟨S.osame (h8 e he).1 hb.size fun b hm => hb.block b (S.lt (h8 e he).1 b hm) (hd e he b hm), (h8 e he).2⟩⟩
theorem list_set_mid (a b cs : List Value) (i : Nat) (v : Value) (hi : i < cs.length) : (a ++ cs ++ b).set (a.length + i) v = a ++ cs.set i v ++ b := by
  rw [List.append_assoc, List.set_append_right _ _ (by omega), Nat.add_sub_cancel_left, List.set_append_left _ _ hi, ← List.append_assoc]
theorem Hole.set (h : Hole S T w g n c l r ce) {j i : Nat} (hj : l.length = j) (hi : i < S.n) (v : Value) : Hole S T (w.setCell ⟨g, j * S.n + i, none⟩ v) g n c l r (ce.set i v) := by
  have hl := h.left
  subst hj
  obtain ⟨cur, h1, h2, h3, h4, h5, h6, h7, h8⟩ := h
  refine ⟨cur.setIfInBounds (l.length * S.n + i) v, ?_, h2, h3, by simpa using h4, ?_, by simpa using h6, h7, fun e he => ⟨S.osame (h8 e he).1 (by simp [World.setCell]) fun b hm => Below.heap_setCell _ _ _ _ (fun e2 => (h8 e he).2.2.2 (by have e3 : b = g := e2; exact e3 ▸ hm)), (h8 e he).2⟩⟩
  · simp [World.setCell, Array.getElem?_modify, h1]
  · have hlt : l.length * S.n + i < n * S.n := by
      have : (l.length + 1) * S.n ≤ n * S.n := Nat.mul_le_mul_right _ (by omega)
      rw [Nat.add_mul, Nat.one_mul] at this
      omega
    rw [Array.toList_setIfInBounds, List.take_set, h5, ← hl]
    exact list_set_mid _ _ _ _ _ (by omega)
/-- One element taken out of a row of the call's own. -/
theorem row_hole {fp : List Nat} {v : Value} {xs : List α} {j : Nat} {x : α} (h : OO (row T S) w lo hi fp v xs) (hx : xs[j]? = some x) :
    ∃ (g n c : Nat) (l r : List (Ue α)) (u : Value) (f : List Nat), v = .slice (some ⟨g, 0, none⟩) n c ∧ l.length = j ∧ xs = l.map (·.x) ++ x :: r.map (·.x) ∧ Hole S T w g n c l r u.cells.toList ∧ OO S w lo hi f u x ∧
      fp = g :: (fps l ++ f ++ fps r) ∧ fp.Nodup ∧ u.cells.size = S.n ∧ u.cells.all (·.oneCell') = true := by
  obtain ⟨⟨A, n, c, es, e, hm, ho, hnd, h⟩, hin, hh⟩ := h
  have hjx : j < xs.length := (List.getElem?_eq_some_iff.1 hx).1
  have hje : j < es.length := by rw [← hm, List.length_map] at hjx; exact hjx
  have hes : es.take j ++ es[j] :: es.drop (j + 1) = es := by
    rw [← List.drop_eq_getElem_cons hje]; exact List.take_append_drop j es
  have hxe : es[j].x = x := by
    rw [← hm, List.getElem?_map, List.getElem?_eq_getElem hje] at hx
    simpa using hx
  have hmem : es[j] ∈ es := List.getElem_mem hje
  rcases h with ⟨_, _, _, h0, _⟩ | ⟨g, cur, rfl, hg, h2, h3, h4, h5, h6, hf⟩
  · rw [h0] at hje; simp at hje
  · have hfp : fps es = fps (es.take j) ++ es[j].fp ++ fps (es.drop (j + 1)) := by
      conv => lhs; rw [← hes]
      rw [fps_append, List.append_assoc]; rfl
    have hfl : flt es = flt (es.take j) ++ es[j].v.cells.toList ++ flt (es.drop (j + 1)) := by
      conv => lhs; rw [← hes]
      rw [flt_append, List.append_assoc]; rfl
    have hlj : (es.take j).length = j := by rw [List.length_take]; omega
    have hgn : g ∉ fps es := by rw [hf] at hnd; exact (List.nodup_cons.1 hnd).1
    refine ⟨g, n, c, es.take j, es.drop (j + 1), es[j].v, es[j].fp, e, hlj, ?_, ⟨cur, hg, h3, h4, h5, by rw [h6, hfl], by simpa using (ho _ hmem).2.1, by rw [hlj, List.length_drop]; omega, fun e he => ?_⟩, ⟨hxe ▸ (ho _ hmem).1, fun b hb => hin b (by rw [hf]; exact List.mem_cons_of_mem _ (mem_fps hmem hb)), hh⟩, by rw [hf, hfp], hnd, (ho _ hmem).2.1, (ho _ hmem).2.2⟩
    · rw [← hm]
      conv => lhs; rw [← hes]
      rw [List.map_append, List.map_cons, hxe]
    · have hm2 : e ∈ es := by
        rcases List.mem_append.1 he with he | he
        · exact List.mem_of_mem_take he
        · exact List.mem_of_mem_drop he
      exact ⟨(ho e hm2).1, (ho e hm2).2.1, (ho e hm2).2.2, fun hb => hgn (mem_fps hm2 hb)⟩
/-- It is put back, changed. -/
theorem Hole.close {fp f : List Nat} {u : Value} {x : α} (h : Hole S T w g n c l r u.cells.toList) (ho : S.O w f u x) (h1 : u.cells.all (·.oneCell') = true) (hf : fp = g :: (fps l ++ f ++ fps r)) (hnd : fp.Nodup) (hin : ∀ b, b ∈ fp → lo ≤ b ∧ b < hi) (hh : hi ≤ w.heap.size) :
    OO (row T S) w lo hi fp (.slice (some ⟨g, 0, none⟩) n c) (l.map (·.x) ++ x :: r.map (·.x)) := by
  obtain ⟨cur, h1', h2, h3, h4, h5, h6, h7, h8⟩ := h
  refine ⟨⟨_, n, c, l ++ ⟨f, u, x⟩ :: r, rfl, by simp, fun e he => ?_, hnd, .inr ⟨g, cur, rfl, h1', by simp; omega, h2, h3, h4, ?_, ?_⟩⟩, hin, hh⟩
  · rcases List.mem_append.1 he with he | he
    · have := h8 e (List.mem_append_left _ he); exact ⟨this.1, this.2.1, this.2.2.1⟩
    · rcases List.mem_cons.1 he with rfl | he
      · exact ⟨ho, by simpa using h6, h1⟩
      · have := h8 e (List.mem_append_right _ he); exact ⟨this.1, this.2.1, this.2.2.1⟩
  · rw [h5, flt_append, List.append_assoc]; rfl
  · rw [hf, fps_append, List.append_assoc]; rfl
/-- What the parts of a row without doubles do not share. -/
theorem hole_apart {fp f : List Nat} (hf : fp = g :: (fps l ++ f ++ fps r)) (hnd : fp.Nodup) : g ∉ f ∧ (∀ e ∈ l ++ r, ∀ b, b ∈ e.fp → b ∉ f) ∧ (∀ b, b ∈ f → b ∈ fp) ∧ g ∈ fp ∧ f.Nodup := by
  subst hf
  obtain ⟨h1, h2⟩ := List.nodup_cons.1 hnd
  obtain ⟨h3, h4, h5⟩ := List.nodup_append.1 h2
  obtain ⟨h6, h7, h8⟩ := List.nodup_append.1 h3
  refine ⟨fun h => h1 (by simp [h]), fun e he b hb hbf => ?_, fun b hb => by simp [hb], List.mem_cons_self, h7⟩
  rcases List.mem_append.1 he with he | he
  · exact h8 b (mem_fps he hb) b hbf rfl
  · exact h5 b (by simp [hbf]) b (mem_fps he hb) rfl
end
theorem OO.wide {α : Type} {S : Rep α} {w : World} {lo lo2 hi : Nat} {fp : List Nat} {v : Value} {x : α} (h : OO S w lo hi fp v x) (hl : lo2 ≤ lo) : OO S w lo2 w.heap.size fp v x := ⟨h.1, fun b hb => by have := h.2.1 b hb; have := h.2.2; omega, Nat.le_refl _⟩
theorem S_lt {α : Type} {S : Rep α} {w : World} {lo hi : Nat} {fp : List Nat} {v : Value} {x : α} (h : OO S w lo hi fp v x) : ∀ b, b ∈ fp → b < w.heap.size := fun b hb => by have := h.2.1 b hb; have := h.2.2; omega
theorem sumT_zero {α : Type} {f : α → Nat} (h : ∀ x, f x = 0) : ∀ l : List α, sumT f l = 0
  | [] => rfl
  | x :: r => by rw [sumT_cons, h x, sumT_zero h r]
theorem at_mid {α : Type} {mk : Int → α → α} {tot : α → Nat} {q : Int} {xs : List α} {j : Nat} {x : α} (hx : xs[j]? = some x) : (mks mk tot q (xs.take j) ++ xs.drop j)[j]? = some x := by
  have hj : j < xs.length := (List.getElem?_eq_some_iff.1 hx).1
  have hl : (mks mk tot q (xs.take j)).length = j := by rw [mks_len, List.length_take]; omega
  rw [List.getElem?_append_right (by omega), hl, Nat.sub_self, List.getElem?_drop, Nat.add_zero]
  exact hx
theorem round_mk {α : Type} {mk : Int → α → α} {tot : α → Nat} {q : Int} {xs a b : List α} {j : Nat} {x : α} (hx : xs[j]? = some x) (ha : a.length = j) (h : mks mk tot q (xs.take j) ++ xs.drop j = a ++ x :: b) :
    a ++ mk (q + (sumT tot (xs.take j) : Nat)) x :: b = mks mk tot q (xs.take (j + 1)) ++ xs.drop (j + 1) := by
  have hj : j < xs.length := (List.getElem?_eq_some_iff.1 hx).1
  have hl : (mks mk tot q (xs.take j)).length = j := by rw [mks_len, List.length_take]; omega
  obtain ⟨h1, h2⟩ := List.append_inj h (by omega)
  have h3 : xs.drop j = x :: xs.drop (j + 1) := by
    rw [List.drop_eq_getElem_cons hj]
    congr 1
    exact (List.getElem?_eq_some_iff.1 hx).2
  rw [h3] at h2
  injection h2 with _ h2
  rw [take_snoc hx, mks_snoc, h1, h2, List.append_assoc]
  rfl
theorem nd_apart {f g k : List Nat} (h : k = f ++ g) (hn : (f ++ g).Nodup) : ∀ b, b ∈ f → b ∈ g → False := fun b h1 h2 => (List.nodup_append.1 hn).2.2 b h1 b h2 rfl
/-- A row that is being filled: the blocks of what stands in it lie above it and below B. -/
def Grow {α : Type} (S : Rep α) (T : TypeId) (w : World) (g n B : Nat) (xs : List α) : Prop :=
  ∃ (cur : Array Value) (es : List (Ue α)), w.heap[g]? = some (.cells cur T (0, 0)) ∧ cur.size = n * S.n ∧ n ≤ maxLen ∧ es.map (·.x) = xs ∧ es.length ≤ n ∧ cur.toList.take (es.length * S.n) = flt es ∧ (fps es).Nodup ∧ g < B ∧ B ≤ w.heap.size ∧
    ∀ e ∈ es, S.O w e.fp e.v e.x ∧ e.v.cells.size = S.n ∧ e.v.cells.all (·.oneCell') = true ∧ ∀ b, b ∈ e.fp → g < b ∧ b < B
section
variable {α : Type} {S : Rep α} {T : TypeId} {w w' : World} {g n B : Nat} {xs : List α}
theorem Grow.start (S : Rep α) (T : TypeId) (w : World) {z : Array Value} (hn : n ≤ maxLen) (hz : z.size = n * S.n) : Grow S T (w.alloc (.cells z T)) w.heap.size n (w.alloc (.cells z T)).heap.size [] :=
  ⟨z, [], heap_alloc_new w _, hz, hn, rfl, Nat.zero_le _, by simp [flt], by simp [fps], by simp, Nat.le_refl _, fun _ h => by cases h⟩
theorem Grow.below (h : Grow S T w g n B xs) (hb : Below w.heap.size w w') : Grow S T w' g n B xs := by
  obtain ⟨cur, es, h1, h2, h3, h4, h5, h6, h7, hg, hB, h8⟩ := h
  exact ⟨cur, es, by rw [hb.block g (lt_of_block h1)]; exact h1, h2, h3, h4, h5, h6, h7, hg, by have := hb.size; omega, fun e he => ⟨S.osame (h8 e he).1 hb.size fun b hm => hb.block b (S.lt (h8 e he).1 b hm), (h8 e he).2⟩⟩
theorem Grow.there {k : Nat} (h : Grow S T w g n B xs) (hk : k < n) : w.there g (k * S.n) S.n := by
  obtain ⟨cur, es, h1, h2, h3, h4, h5, h6, h7, h8⟩ := h
  intro j hj
  have : (k + 1) * S.n ≤ n * S.n := Nat.mul_le_mul_right _ (by omega)
  rw [Nat.add_mul, Nat.one_mul] at this
  exact ⟨by simp only [World.cell?, h1]; simp; omega, by simp [World.frozen?, h1]⟩
theorem Grow.put {k lo hi : Nat} {f : List Nat} {u : Value} {x : α} {cs : List Value} (h : Grow S T w g n B xs) (hl : xs.length = k) (hk : k < n) (ho : OO S w lo hi f u x) (h1 : u.cells.all (·.oneCell') = true) (hc : u.cells.toList = cs) (hs : u.cells.size = S.n) (hB : B ≤ lo) :
    Grow S T (w.setCells g (k * S.n) cs) g n (w.setCells g (k * S.n) cs).heap.size (xs ++ [x]) := by
  subst hc
  obtain ⟨cur, es, h1', h2, h3, h4, h5, h6, h7, hg, hBs, h8⟩ := h
  have hek : es.length = k := by rw [← hl, ← h4, List.length_map]
  subst hek
  have hsz := mrw.size_setCells g u.cells.toList (es.length * S.n) w
  have hlen : u.cells.toList.length = S.n := by simpa using hs
  have hcap : es.length * S.n + S.n ≤ cur.size := by
    have := Nat.mul_le_mul_right S.n (show es.length + 1 ≤ n by omega)
    rw [Nat.add_mul, Nat.one_mul] at this
    omega
  have kp : ∀ {fp : List Nat} {v : Value} {y : α}, S.O w fp v y → (∀ b, b ∈ fp → g < b) → S.O (w.setCells g (es.length * S.n) u.cells.toList) fp v y := fun h hb => S.osame h (by omega) fun b hm => mrw.heap_setCells_ne (by have := hb b hm; omega) _ _ _
  have hfl : (flt es).length = es.length * S.n := flt_len es fun e he => (h8 e he).2.1
  refine ⟨_, es ++ [⟨f, u, x⟩], mrw.heap_setCells_same _ _ _ _ h1', by rw [mrw.lay_size]; exact h2, h3, by rw [List.map_append, h4]; rfl, by simp; omega, ?_, ?_, by omega, Nat.le_refl _, fun e he => ?_⟩
  · rw [mrw.lay_list _ _ _ (by rw [hlen]; exact hcap), hlen, h6, List.length_append, List.length_singleton, Nat.add_mul, Nat.one_mul, flt_append]
    have e1 : flt [(⟨f, u, x⟩ : Ue α)] = u.cells.toList := by simp [flt]
    have e2 : (flt es ++ u.cells.toList).length = es.length * S.n + S.n := by rw [List.length_append, hfl, hlen]
    rw [e1, List.take_append_of_le_length (by omega), List.take_of_length_le (by omega)]
  · rw [fps_append]
    have e1 : fps [(⟨f, u, x⟩ : Ue α)] = f := by simp [fps]
    rw [e1]
    refine List.nodup_append.2 ⟨h7, S.nd ho.1, fun b hb c hc2 => ?_⟩
    obtain ⟨e, he, hbe⟩ := List.mem_flatMap.1 hb
    have a1 := ((h8 e he).2.2.2 b hbe).2
    have a2 := (ho.2.1 c hc2).1
    omega
  · rw [hsz]
    rcases List.mem_append.1 he with he | he
    · exact ⟨kp (h8 e he).1 (fun b hb => ((h8 e he).2.2.2 b hb).1), (h8 e he).2.1, (h8 e he).2.2.1, fun b hb => by have := (h8 e he).2.2.2 b hb; omega⟩
    · obtain rfl : e = ⟨f, u, x⟩ := by simpa using he
      exact ⟨kp ho.1 (fun b hb => by have := (ho.2.1 b hb).1; omega), hs, h1, fun b hb => by have a1 := ho.2.1 b hb; have a2 := ho.2.2; omega⟩
theorem Grow.done (h : Grow S T w g n B xs) (hl : xs.length = n) : ∃ fp, OO (row T S) w g w.heap.size fp (.slice (some ⟨g, 0, none⟩) n n) xs := by
  obtain ⟨cur, es, h1, h2, h3, h4, h5, h6, h7, hg, hB, h8⟩ := h
  have hen : es.length = n := by rw [← hl, ← h4, List.length_map]
  have hgn : g ∉ fps es := fun hm => by
    obtain ⟨e, he, hbe⟩ := List.mem_flatMap.1 hm
    have := ((h8 e he).2.2.2 g hbe).1
    omega
  refine ⟨g :: fps es, ⟨_, n, n, es, rfl, h4, fun e he => ⟨(h8 e he).1, (h8 e he).2.1, (h8 e he).2.2.1⟩, List.nodup_cons.2 ⟨hgn, h7⟩, .inr ⟨g, cur, rfl, h1, hen, Nat.le_refl _, h3, h2, by rw [← hen]; exact h6, rfl⟩⟩, fun b hb => ?_, Nat.le_refl _⟩
  rcases List.mem_cons.1 hb with rfl | hb
  · exact ⟨Nat.le_refl _, lt_of_block h1⟩
  · obtain ⟨e, he, hbe⟩ := List.mem_flatMap.1 hb
    have := (h8 e he).2.2.2 b hbe
    omega
end
end Go.Proofs.Ytbkdbdhbmabgcaa.ux
end

section
namespace Go.Proofs.Ytbkdbdhbmabgcaa.ux
open Go.RowKit sl harn bx stw
set_option linter.unusedVariables false
set_option linter.unusedSimpArgs false

abbrev bytes : Rep (List Int) := num 5 .u8
theorem bytes_sl {w : World} {lo hi : Nat} {v : Value} {x : List Int} (h : bytes.R w lo hi v x) : ∃ A n c, v = .slice A n c := by
  obtain ⟨A, n, c, e, _⟩ := h
  exact ⟨A, n, c, e⟩
theorem bytes_slo {w : World} {fp : List Nat} {v : Value} {x : List Int} (h : bytes.O w fp v x) : ∃ A n c, v = .slice A n c := by
  obtain ⟨A, n, c, e, _⟩ := h
  exact ⟨A, n, c, e⟩
theorem bytes_tot (x : List Int) : bytes.tot x ≤ 64 * bytes.sz x := by show x.length ≤ 64 * x.length; omega
theorem rd_of {w : World} {lo hi n c : Nat} {A : Option Addr} {zs : List Int} (h : RR bytes w lo hi (.slice A n c) zs) : Rd .u8 w lo hi A n c zs := by
  obtain ⟨A', n', c', e, h⟩ := h
  injection e with e1 e2 e3
  subst e1 e2 e3
  exact h
theorem mem_one {b g : Nat} (h : b ∈ blks (some ⟨g, 0, none⟩)) : b = g := by simpa [blks] using h
theorem tch_ks {lo hi : Nat} {A : Option Addr} {w w' : World} (h : Tch lo hi w w') (hb : ∀ k, k ∉ blks A → w'.heap[k]? = w.heap[k]?) : KS (blks A) w w' := ⟨h.os, h.tape, h.output, h.size, fun k _ hk => hb k hk⟩
theorem toByteS {w : World} {lo hi : Nat} {v : Value} {x : List Int} (h : RR bytes w lo hi v x) (hs : bytes.sz x ≤ 67108864) : Calls Try.prog 82 #[v] w (ToPost bytes x w) := by
  obtain ⟨A, n, c, rfl, h⟩ := h
  refine (harn.toByteS x lo hi A n c w h (by rw [← h.len]; exact hs)).mono ?_
  rintro e w' ⟨A', n', c', rfl, ho, hb⟩
  exact ⟨_, _, rfl, num_of ho, hb⟩
theorem eqByteS {w : World} {lo hi lo2 hi2 : Nat} {v u : Value} {x : List Int} (h : RR bytes w lo hi v x) (h2 : RR bytes w lo2 hi2 u x) : Calls Try.prog 83 #[v, u] w (BPost true w) := by
  obtain ⟨A, n, c, rfl, h⟩ := h
  obtain ⟨A2, n2, c2, rfl, h2⟩ := h2
  exact harn.eqByteS_yes x lo hi lo2 hi2 A A2 n c n2 c2 w h h2
theorem markByteS {w : World} {lo hi : Nat} {fp : List Nat} {v : Value} {x : List Int} (q : Int) (h : OO bytes w lo hi fp v x) (hq : 0 ≤ q ∧ q + (bytes.tot x : Nat) ≤ 1099511627776) (hs : bytes.sz x ≤ 67108864) : Calls Try.prog 84 #[v, .int .i64 q] w (MkPost bytes (bytes.mkx q x) (q + (bytes.tot x : Nat)) lo hi fp v w) := by
  obtain ⟨A, n, c, rfl, ho, rfl⟩ := num_open h
  have hl : x.length = n := ho.len
  have hq2 : q + (x.length : Nat) ≤ 1099511627776 := hq.2
  rcases ho.form with ⟨rfl, rfl, rfl⟩ | ⟨g, cur, rfl, h1, h2, h3, h4⟩
  · refine (harn.markByteS x 0 0 none 0 0 q w ⟨⟨by simpa using hl, .inl ⟨rfl, rfl⟩⟩, ho.wf, by omega, fun _ _ e => by cases e⟩ hq.1 (by omega) (by omega)).mono ?_
    rintro e w' ⟨rfl, ho', ht⟩
    have e0 : bytes.mkx q x = marks .u8 q 0 := by show marks .u8 q x.length = _; rw [hl]
    refine ⟨by rw [show bytes.tot x = 0 from hl], ?_, ⟨ht.os, ht.tape, ht.output, ht.size, fun k hk _ => ht.block k hk (by omega)⟩⟩
    rw [e0]
    exact ⟨⟨none, 0, 0, rfl, ho'.up, rfl⟩, (fun b hb => by cases hb), by have := ho.hi_; have := ht.size; omega⟩
  · have hg : Ow 5 .u8 w g (g + 1) (some ⟨g, 0, none⟩) n c x := ow_to ho (fun b hb => by have := mem_one hb; omega) (by have := lt_of_block h3; omega)
    refine (harn.markByteS x g (g + 1) (some ⟨g, 0, none⟩) n c q w hg hq.1 (by omega) (by rw [← hl]; exact hs)).mono ?_
    rintro e w' ⟨rfl, ho', ht⟩
    have e0 : bytes.mkx q x = marks .u8 q n := by show marks .u8 q x.length = _; rw [hl]
    refine ⟨by rw [show bytes.tot x = n from hl], ?_, ⟨ht.os, ht.tape, ht.output, ht.size, fun k hk hm => ht.block k hk (by simp [blks] at hm; omega)⟩⟩
    rw [e0]
    exact ⟨⟨_, n, c, rfl, ho'.up.down (Nat.zero_le _), rfl⟩, (fun b hb => by have := mem_one hb; subst this; exact ⟨h1, h2⟩), by have := ho.hi_; have := ht.size; omega⟩
theorem szByteS {w : World} {lo hi : Nat} {v : Value} {x : List Int} (left : Int) (hl : 0 ≤ left ∧ left ≤ 1048576) (h : RR bytes w lo hi v x) : Calls Try.prog 81 #[v, .int .i64 left] w (ZPost left (bytes.sz x) w) := by
  obtain ⟨A, n, c, rfl, h⟩ := h
  have hx : bytes.sz x = n := h.len
  rw [hx]
  have hc := h.cap_
  have hd : IntKind.i64.wrap (left - n) = left - n := IntWalk.i64_in _ (by omega)
  obtain ⟨h0, h1⟩ := hl
  clear h hx
  by_cases hle : (n : Int) ≤ left
  · have hq : ¬ left - n < 0 := by omega
    have HE := Lib.hid hle
    go_enter Try.func81, Try.ntmps81
    go_wp2
    go_ret
    exact ⟨left - n, rfl, .inr ⟨rfl, HE.out⟩, Below.refl _ _⟩
  · have hq : left - n < 0 := by omega
    have HE := Lib.hid (show left < (n : Int) by omega)
    go_enter Try.func81, Try.ntmps81
    go_wp2
    go_ret
    exact ⟨-1, rfl, .inl ⟨rfl, HE.out⟩, Below.refl _ _⟩
end Go.Proofs.Ytbkdbdhbmabgcaa.ux
end

section
namespace Go.Proofs.Ytbkdbdhbmabgcaa.ux
open Go.RowKit sl harn bx stw
set_option linter.unusedVariables false
set_option linter.unusedSimpArgs false

structure Fra where
  Kind : Int
  From : Int
  To : Int
  Seq : Int
  Fragment : Int
  More : Bool
  Retry : Bool
  Duration : Int
  Body : List Int
abbrev fraV (x : Fra) (v0 : Value) : Value := .agg #[.int .i64 x.Kind, .int .i64 x.From, .int .i64 x.To, .int .i64 x.Seq, .int .i64 x.Fragment, .bool x.More, .bool x.Retry, .int .i64 x.Duration, v0]
theorem oneFra (y0 : Int) (y1 : Int) (y2 : Int) (y3 : Int) (y4 : Int) (y5 : Bool) (y6 : Bool) (y7 : Int) (A8 : Option Addr) (n8 c8 : Nat) : (#[.int .i64 y0, .int .i64 y1, .int .i64 y2, .int .i64 y3, .int .i64 y4, .bool y5, .bool y6, .int .i64 y7, .slice A8 n8 c8] : Array Value).all (·.oneCell') = true :=
  all_oneCell_toArray (cs := [.int .i64 y0, .int .i64 y1, .int .i64 y2, .int .i64 y3, .int .i64 y4, .bool y5, .bool y6, .int .i64 y7, .slice A8 n8 c8]) (by intro v hv; simp only [List.mem_cons, List.not_mem_nil, or_false] at hv; rcases hv with rfl | rfl | rfl | rfl | rfl | rfl | rfl | rfl | rfl <;> rfl)
def fra : Rep Fra where
  n := 9
  R := fun w lo hi v x => hi ≤ w.heap.size ∧ ∃ (v0 : Value), v = fraV x v0 ∧ bytes.R w lo hi v0 x.Body
  O := fun w fp v x => ∃ (v0 : Value) (f0 : List Nat), v = fraV x v0 ∧ bytes.O w f0 v0 x.Body ∧ fp = f0 ∧ fp.Nodup
  sz := fun x => bytes.sz x.Body
  tot := fun x => 8 + bytes.tot x.Body
  mkx := fun q x => ⟨q, (q + 1), (q + 2), (q + 3), (q + 4), ((q + 5) % 3 == 0), ((q + 6) % 3 == 0), (q + 7), bytes.mkx (q + 8) x.Body⟩
  pos := by omega
  len := fun ⟨hh, v0, e, h0⟩ => by subst e; rfl
  one := fun ⟨hh, v0, e, h0⟩ => by
    subst e
    obtain ⟨A0, n0, c0, rfl⟩ := bytes_sl h0
    exact oneFra _ _ _ _ _ _ _ _ _ _ _
  same := fun ⟨hh, v0, e, h0⟩ hs hb => ⟨by omega, v0, e, bytes.same h0 hs hb⟩
  hi_ := fun h => h.1
  osame := fun ⟨v0, f0, e, h0, hf, hn⟩ hs hb => ⟨v0, f0, e, bytes.osame h0 hs (fun b hm => hb b (by rw [hf]; simp [hm])), hf, hn⟩
  rd := fun ⟨v0, f0, e, h0, hf, hn⟩ hb hh => ⟨hh, v0, e, bytes.rd h0 (fun b hm => hb b (by rw [hf]; simp [hm])) hh⟩
  lt := fun ⟨v0, f0, e, h0, hf, hn⟩ b hm => by
    rw [hf] at hm
    exact bytes.lt h0 b hm
  nd := fun ⟨v0, f0, e, h0, hf, hn⟩ => hn
  tle := fun x => by
    have t0 := bytes_tot x.Body
    show 8 + bytes.tot x.Body ≤ 64 * (bytes.sz x.Body) + 64
    omega
theorem fra_r {w : World} {lo hi : Nat} {v : Value} {x : Fra} (h : RR fra w lo hi v x) : ∃ (A0 : Option Addr) (n0 c0 : Nat), v = fraV x (.slice A0 n0 c0) ∧ RR bytes w lo hi (.slice A0 n0 c0) x.Body := by
  obtain ⟨hh, v0, e, h0⟩ := h
  obtain ⟨A0, n0, c0, rfl⟩ := bytes_sl h0
  exact ⟨A0, n0, c0, e, h0⟩
theorem fra_o {w : World} {lo hi : Nat} {fp : List Nat} {v : Value} {x : Fra} (h : OO fra w lo hi fp v x) : ∃ (A0 : Option Addr) (n0 c0 : Nat) (f0 : List Nat), v = fraV x (.slice A0 n0 c0) ∧ OO bytes w lo hi f0 (.slice A0 n0 c0) x.Body ∧ fp = f0 ∧ fp.Nodup := by
  obtain ⟨⟨v0, f0, e, h0, hf, hn⟩, hin, hh⟩ := h
  obtain ⟨A0, n0, c0, rfl⟩ := bytes_slo h0
  exact ⟨A0, n0, c0, f0, e, ⟨h0, fun b hm => hin b (by rw [hf]; simp [hm]), hh⟩, hf, hn⟩
theorem fra_mk {w : World} {lo hi : Nat} {x : Fra} {v0 : Value} {f0 : List Nat} (h0 : OO bytes w lo hi f0 v0 x.Body) (hn : (f0 : List Nat).Nodup) : OO fra w lo hi (f0) (fraV x v0) x :=
  ⟨⟨v0, f0, rfl, h0.1, rfl, hn⟩, fun b hb => by
    exact h0.2.1 b hb, h0.2.2⟩
theorem szFra : (Try.prog.info? 25).map (·.size) = some 9 := by kernel_rfl
def rowFra : Rep (List Fra) := row 25 fra
theorem rowFra_sl {w : World} {lo hi : Nat} {v : Value} {x : List Fra} (h : rowFra.R w lo hi v x) : ∃ A n c, v = .slice A n c := by
  obtain ⟨A, n, c, e, _⟩ := h
  exact ⟨A, n, c, e⟩
theorem rowFra_slo {w : World} {fp : List Nat} {v : Value} {x : List Fra} (h : rowFra.O w fp v x) : ∃ A n c, v = .slice A n c := by
  obtain ⟨A, n, c, es, e, _⟩ := h
  exact ⟨A, n, c, e⟩
theorem rowFra_tot (x : List Fra) : rowFra.tot x ≤ 64 * rowFra.sz x := row_tot _ _ x
structure Rea where
  From : Int
  Seq : Int
  Next : Int
  Body : List Int
  Started : Int
abbrev reaV (x : Rea) (v0 : Value) : Value := .agg #[.int .i64 x.From, .int .i64 x.Seq, .int .i64 x.Next, v0, .int .i64 x.Started]
theorem oneRea (y0 : Int) (y1 : Int) (y2 : Int) (A3 : Option Addr) (n3 c3 : Nat) (y4 : Int) : (#[.int .i64 y0, .int .i64 y1, .int .i64 y2, .slice A3 n3 c3, .int .i64 y4] : Array Value).all (·.oneCell') = true :=
  all_oneCell_toArray (cs := [.int .i64 y0, .int .i64 y1, .int .i64 y2, .slice A3 n3 c3, .int .i64 y4]) (by intro v hv; simp only [List.mem_cons, List.not_mem_nil, or_false] at hv; rcases hv with rfl | rfl | rfl | rfl | rfl <;> rfl)
def rea : Rep Rea where
  n := 5
  R := fun w lo hi v x => hi ≤ w.heap.size ∧ ∃ (v0 : Value), v = reaV x v0 ∧ bytes.R w lo hi v0 x.Body
  O := fun w fp v x => ∃ (v0 : Value) (f0 : List Nat), v = reaV x v0 ∧ bytes.O w f0 v0 x.Body ∧ fp = f0 ∧ fp.Nodup
  sz := fun x => bytes.sz x.Body
  tot := fun x => 4 + bytes.tot x.Body
  mkx := fun q x => ⟨q, (q + 1), (q + 2), bytes.mkx (q + 3) x.Body, (q + 3 + (bytes.tot x.Body : Nat))⟩
  pos := by omega
  len := fun ⟨hh, v0, e, h0⟩ => by subst e; rfl
  one := fun ⟨hh, v0, e, h0⟩ => by
    subst e
    obtain ⟨A0, n0, c0, rfl⟩ := bytes_sl h0
    exact oneRea _ _ _ _ _ _ _
  same := fun ⟨hh, v0, e, h0⟩ hs hb => ⟨by omega, v0, e, bytes.same h0 hs hb⟩
  hi_ := fun h => h.1
  osame := fun ⟨v0, f0, e, h0, hf, hn⟩ hs hb => ⟨v0, f0, e, bytes.osame h0 hs (fun b hm => hb b (by rw [hf]; simp [hm])), hf, hn⟩
  rd := fun ⟨v0, f0, e, h0, hf, hn⟩ hb hh => ⟨hh, v0, e, bytes.rd h0 (fun b hm => hb b (by rw [hf]; simp [hm])) hh⟩
  lt := fun ⟨v0, f0, e, h0, hf, hn⟩ b hm => by
    rw [hf] at hm
    exact bytes.lt h0 b hm
  nd := fun ⟨v0, f0, e, h0, hf, hn⟩ => hn
  tle := fun x => by
    have t0 := bytes_tot x.Body
    show 4 + bytes.tot x.Body ≤ 64 * (bytes.sz x.Body) + 64
    omega
theorem rea_r {w : World} {lo hi : Nat} {v : Value} {x : Rea} (h : RR rea w lo hi v x) : ∃ (A0 : Option Addr) (n0 c0 : Nat), v = reaV x (.slice A0 n0 c0) ∧ RR bytes w lo hi (.slice A0 n0 c0) x.Body := by
  obtain ⟨hh, v0, e, h0⟩ := h
  obtain ⟨A0, n0, c0, rfl⟩ := bytes_sl h0
  exact ⟨A0, n0, c0, e, h0⟩
theorem rea_o {w : World} {lo hi : Nat} {fp : List Nat} {v : Value} {x : Rea} (h : OO rea w lo hi fp v x) : ∃ (A0 : Option Addr) (n0 c0 : Nat) (f0 : List Nat), v = reaV x (.slice A0 n0 c0) ∧ OO bytes w lo hi f0 (.slice A0 n0 c0) x.Body ∧ fp = f0 ∧ fp.Nodup := by
  obtain ⟨⟨v0, f0, e, h0, hf, hn⟩, hin, hh⟩ := h
  obtain ⟨A0, n0, c0, rfl⟩ := bytes_slo h0
  exact ⟨A0, n0, c0, f0, e, ⟨h0, fun b hm => hin b (by rw [hf]; simp [hm]), hh⟩, hf, hn⟩
theorem rea_mk {w : World} {lo hi : Nat} {x : Rea} {v0 : Value} {f0 : List Nat} (h0 : OO bytes w lo hi f0 v0 x.Body) (hn : (f0 : List Nat).Nodup) : OO rea w lo hi (f0) (reaV x v0) x :=
  ⟨⟨v0, f0, rfl, h0.1, rfl, hn⟩, fun b hb => by
    exact h0.2.1 b hb, h0.2.2⟩
theorem szRea : (Try.prog.info? 38).map (·.size) = some 5 := by kernel_rfl
def rowRea : Rep (List Rea) := row 38 rea
theorem rowRea_sl {w : World} {lo hi : Nat} {v : Value} {x : List Rea} (h : rowRea.R w lo hi v x) : ∃ A n c, v = .slice A n c := by
  obtain ⟨A, n, c, e, _⟩ := h
  exact ⟨A, n, c, e⟩
theorem rowRea_slo {w : World} {fp : List Nat} {v : Value} {x : List Rea} (h : rowRea.O w fp v x) : ∃ A n c, v = .slice A n c := by
  obtain ⟨A, n, c, es, e, _⟩ := h
  exact ⟨A, n, c, e⟩
theorem rowRea_tot (x : List Rea) : rowRea.tot x ≤ 64 * rowRea.sz x := row_tot _ _ x
end Go.Proofs.Ytbkdbdhbmabgcaa.ux
end

section
namespace Go.Proofs.Ytbkdbdhbmabgcaa.fr
open Go.RowKit sl harn bx mrw drk stw
set_option linter.unusedVariables false
set_option linter.unusedSimpArgs false

open ux (Rea Fra rea fra)
def zr : Rea := ⟨0, 0, 0, [], 0⟩
abbrev rV (x : Rea) (A : Option Addr) (n c : Nat) : Value := .agg #[.int .i64 x.From, .int .i64 x.Seq, .int .i64 x.Next, .slice A n c, .int .i64 x.Started]
abbrev fV (x : Fra) (A : Option Addr) (n c : Nat) : Value := .agg #[.int .i64 x.Kind, .int .i64 x.From, .int .i64 x.To, .int .i64 x.Seq, .int .i64 x.Fragment, .bool x.More, .bool x.Retry, .int .i64 x.Duration, .slice A n c]
def reaS : Sh Rea where
  T := 38
  s := 5
  C := fun x A n c => [.int .i64 x.From, .int .i64 x.Seq, .int .i64 x.Next, .slice A n c, .int .i64 x.Started]
  B := fun x => x.Body
  len := fun _ _ _ _ => rfl
  one := fun x A n c u hu => by
    simp only [List.mem_cons, List.not_mem_nil, or_false] at hu
    rcases hu with rfl | rfl | rfl | rfl | rfl <;> rfl
  pos := by omega
  ne := by decide
def fraS : Sh Fra where
  T := 25
  s := 9
  C := fun x A n c => [.int .i64 x.Kind, .int .i64 x.From, .int .i64 x.To, .int .i64 x.Seq, .int .i64 x.Fragment, .bool x.More, .bool x.Retry, .int .i64 x.Duration, .slice A n c]
  B := fun x => x.Body
  len := fun _ _ _ _ => rfl
  one := fun x A n c u hu => by
    simp only [List.mem_cons, List.not_mem_nil, or_false] at hu
    rcases hu with rfl | rfl | rfl | rfl | rfl | rfl | rfl | rfl | rfl <;> rfl
  pos := by omega
  ne := by decide
/-- The fragment number i of n. -/
def frag (f : Fra) (t : Int) (n : Int) (i : Nat) : Fra := { f with Fragment := i, More := decide ((i : Int) < n - 1), Body := (f.Body.drop (i * t.toNat)).take (min (i * t.toNat + t.toNat) f.Body.length - i * t.toNat) }
def fcnt (b t : Int) : Int := if (1 ≤ t ∧ t ≤ 100) ∧ (0 ≤ b ∧ b ≤ t * 16) then (if 1 < (b + t - 1) / t then (b + t - 1) / t else 1) else 0
def frs (f : Fra) (t : Int) : List Fra := (List.range (fcnt f.Body.length t).toNat).map (frag f t (fcnt f.Body.length t))
def start (f : Fra) (now : Int) : Rea := ⟨f.From, f.Seq, 1, f.Body, now⟩
/-- The first reassembly of the sender; the list's length if there is none. -/
def fst (l : List Rea) (x : Int) : Nat := l.findIdx fun r => r.From == x
def cont (r : Rea) (f : Fra) : Bool := r.Seq == f.Seq && (r.Next == f.Fragment && decide ((r.Body.length : Int) + f.Body.length ≤ 100))
def without (l : List Rea) (x : Int) : List Rea := l.eraseIdx (fst l x)
def add (l : List Rea) (f : Fra) (now : Int) : List Rea × List Int × Bool :=
  if f.Fragment = 0 then (if f.More = true then (without l f.From ++ [start f now], [], false) else (without l f.From, f.Body, true))
  else if 0 < f.Fragment ∧ fst l f.From < l.length ∧ cont (l.getD (fst l f.From) zr) f = true then
    (if f.More = true then (l.set (fst l f.From) { l.getD (fst l f.From) zr with Body := (l.getD (fst l f.From) zr).Body ++ f.Body, Next := IntKind.i64.wrap (f.Fragment + 1) }, [], false)
     else (without l f.From, (l.getD (fst l f.From) zr).Body ++ f.Body, true))
  else (l, [], false)
def live (now : Int) (r : Rea) : Bool := decide (now ≤ IntKind.i64.wrap (r.Started + 50))
theorem getD_of {l : List Rea} {i : Nat} {x : Rea} (h : l[i]? = some x) : l.getD i zr = x := by rw [List.getD_eq_getElem?_getD, h]; rfl
theorem take_snoc {α : Type} {l : List α} {i : Nat} {x : α} (h : l[i]? = some x) : l.take (i + 1) = l.take i ++ [x] := by rw [List.take_add_one, h]; rfl
section
variable {w w' : World} {lo hi n cap : Nat} {A : Option Addr} {ms : List Rea}
theorem at_ {k : Nat} (h : Rq reaS w lo hi A n cap ms) (hk : k < n) : ∃ b off x, A = some ⟨b, off, none⟩ ∧ ms[k]? = some x ∧ lo ≤ b ∧ b < hi ∧ ∃ A' n' c', Rd .u8 w lo hi A' n' c' x.Body ∧
    w.cell? ⟨b, off + k * 5, none⟩ = some (.int .i64 x.From) ∧ w.cell? ⟨b, off + k * 5 + 1, none⟩ = some (.int .i64 x.Seq) ∧ w.cell? ⟨b, off + k * 5 + 2, none⟩ = some (.int .i64 x.Next) ∧ w.cell? ⟨b, off + k * 5 + 3, none⟩ = some (.slice A' n' c') ∧ w.cell? ⟨b, off + k * 5 + 4, none⟩ = some (.int .i64 x.Started) := by
  obtain ⟨b, off, x, e, hx, h1, h2, A', n', c', hr, hb⟩ := h.at_ hk
  exact ⟨b, off, x, e, hx, h1, h2, A', n', c', hb, hr 0 _ rfl, hr 1 _ rfl, hr 2 _ rfl, hr 3 _ rfl, hr 4 _ rfl⟩
end
/-- What hands back one reassembly; a slice of them. -/
def XPost (x : Rea) (w : World) (e : Ending) (w' : World) : Prop :=
  ∃ A n cap, e = .returned (rV x A n cap) ∧ Ow 5 .u8 w' w.heap.size w'.heap.size A n cap x.Body ∧ Below w.heap.size w w'
theorem x_parts {x : Rea} {w w' : World} {e : Ending} (h : XPost x w e w') : ∃ A n cap, e = .returned (rV x A n cap) ∧ Ow 5 .u8 w' w.heap.size w'.heap.size A n cap x.Body ∧ Below w.heap.size w w' := h
def SPost (l : List Rea) (w : World) (e : Ending) (w' : World) : Prop := ∃ A n cap es, e = .returned (.slice A n cap) ∧ es.map (fun e : El Rea => e.x) = l ∧ Oe reaS w' w.heap.size w'.heap.size A n cap es ∧ Below w.heap.size w w'
theorem s_parts {l : List Rea} {w w' : World} {e : Ending} (h : SPost l w e w') : ∃ A n cap es, e = .returned (.slice A n cap) ∧ es.map (fun e : El Rea => e.x) = l ∧ Oe reaS w' w.heap.size w'.heap.size A n cap es ∧ Below w.heap.size w w' := h
section cuts
variable {P : Program} (t e : TypeId) (i0 : TypeInfo) (s : Nat) (hu : P.underlying t = some (.slice e)) (hi : P.info? e = some i0) (hs : i0.size = s)
include hu hi hs
set_option linter.unusedSectionVars false in
theorem sliceQ_pre (b off n cap j : Nat) (hj : j ≤ cap) (W : World) : (Instr.slice t (.slice (some ⟨b, off, none⟩) n cap) none (some (.int .i64 j)) none).run P W = .ok (.slice (some ⟨b, off, none⟩) j cap) W := by
  have hj2 : (j : Int) ≤ cap := by omega
  simp [Instr.slice, run_underlying hu, Instr.sliceBounds, Instr.sliceBound, sizeOf, typeInfo, hi, hs, go_sem]
  intro h; omega
theorem sliceQ_mid (b off n cap j m : Nat) (hj : j < m) (hm : m ≤ cap) (W : World) : (Instr.slice t (.slice (some ⟨b, off, none⟩) n cap) (some (.int .i64 j)) (some (.int .i64 m)) none).run P W = .ok (.slice (some ⟨b, off + j * s, none⟩) (m - j) (cap - j)) W := by
  have hj2 : (j : Int) ≤ m := by omega
  have hj3 : (m : Int) ≤ cap := by omega
  simp [Instr.slice, run_underlying hu, Instr.sliceBounds, Instr.sliceBound, sizeOf, typeInfo, hi, hs, go_sem]
  rw [if_pos hm, if_pos (by omega), if_neg (by omega)]
theorem sliceQ_post (b off n cap j : Nat) (hj : j ≤ n) (hc : n ≤ cap) : ∃ ad : Addr, (j < n → ad = ⟨b, off + j * s, none⟩) ∧ ∀ W, (Instr.slice t (.slice (some ⟨b, off, none⟩) n cap) (some (.int .i64 j)) none none).run P W = .ok (.slice (some ad) (n - j) (cap - j)) W := by
  refine ⟨if cap = j then ⟨b, off, none⟩ else ⟨b, off + j * s, none⟩, fun h => ?_, fun W => ?_⟩
  · rw [if_neg (by omega)]
  · have hj2 : (j : Int) ≤ n := by omega
    simp [Instr.slice, run_underlying hu, Instr.sliceBounds, Instr.sliceBound, sizeOf, typeInfo, hi, hs, go_sem]
    rw [if_pos hj]
    congr 2
    split
    · rfl
    · rfl
end cuts
theorem rq_cut {α : Type} {S : Sh α} {w : World} {lo hi n cap : Nat} {A A' : Option Addr} {xs : List α} (h : Rq S w lo hi A n cap xs) (i j c : Nat) (hA : ∀ b off, A = some ⟨b, off, none⟩ → i < j → A' = some ⟨b, off + i * S.s, none⟩) (hij : i ≤ j) (hj : j ≤ n) (hc : j - i ≤ c) (hcm : c ≤ maxLen) : Rq S w lo hi A' (j - i) c ((xs.drop i).take (j - i)) := by
  obtain ⟨h1, h2, h3, h4, h5⟩ := h
  refine ⟨by simp; omega, hc, hcm, h4, fun hn => ?_⟩
  obtain ⟨b, off, e, g1, g2, g3⟩ := h5 (by omega)
  refine ⟨b, off + i * S.s, hA b off e (by omega), g1, g2, fun k x hx => ?_⟩
  rw [List.getElem?_take] at hx
  split at hx
  · rw [List.getElem?_drop] at hx
    have h9 := g3 (i + k) x hx
    rw [Nat.add_mul, ← Nat.add_assoc] at h9
    exact h9
  · cases hx
theorem oe_some {w : World} {lo hi n c : Nat} {A : Option Addr} {es : List (El Rea)} (h : Oe reaS w lo hi A n c es) (hn : 0 < n) : ∃ g, A = some ⟨g, 0, none⟩ := by
  rcases h.form with ⟨_, h0, _⟩ | ⟨g, cur, h0, _⟩
  · omega
  · exact ⟨g, h0⟩
/-- A copied list: it has an address. -/
def CPost (l : List Rea) (w : World) (e : Ending) (w' : World) : Prop := ∃ g n cap es, e = .returned (.slice (some ⟨g, 0, none⟩) n cap) ∧ es.map (fun e : El Rea => e.x) = l ∧ Oe reaS w' w.heap.size w'.heap.size (some ⟨g, 0, none⟩) n cap es ∧ Below w.heap.size w w'
theorem c_parts {l : List Rea} {w w' : World} {e : Ending} (h : CPost l w e w') : ∃ g n cap es, e = .returned (.slice (some ⟨g, 0, none⟩) n cap) ∧ es.map (fun e : El Rea => e.x) = l ∧ Oe reaS w' w.heap.size w'.heap.size (some ⟨g, 0, none⟩) n cap es ∧ Below w.heap.size w w' := h
/-- Two rows of the call's own, one above the other. -/
theorem ds_two {w w2 : World} {l1 h1 l2 h2 n c n2 c2 : Nat} {A A2 : Option Addr} {es fs : List (El Rea)} (a : Oe reaS w l1 h1 A n c es) (b : Oe reaS w2 l2 h2 A2 n2 c2 fs) (h : h1 ≤ l2) : Ds (es ++ fs) := by
  refine List.pairwise_append.2 ⟨a.ds, b.ds, fun e he f hf x y hx hy => ?_⟩
  rcases (a.body e he).form with ⟨e0, _⟩ | ⟨g, cur, e0, _, g2, _⟩
  · rw [e0] at hx; cases hx
  · rcases (b.body f hf).form with ⟨k0, _⟩ | ⟨g', cur', k0, k1, _⟩
    · rw [k0] at hy; cases hy
    · rw [e0] at hx; rw [k0] at hy
      obtain rfl := Option.some.inj hx
      obtain rfl := Option.some.inj hy
      show g ≠ g'
      omega
theorem infoR : (Try.prog.info? 38).map (fun i => (i.zero, i.size, i.bytes)) = some (some (.agg #[.int .i64 0, .int .i64 0, .int .i64 0, .slice none 0 0, .int .i64 0]), 5, 56) := by kernel_rfl
theorem infoF : (Try.prog.info? 25).map (fun i => (i.zero, i.size, i.bytes)) = some (some (.agg #[.int .i64 0, .int .i64 0, .int .i64 0, .int .i64 0, .int .i64 0, .bool false, .bool false, .int .i64 0, .slice none 0 0]), 9, 80) := by kernel_rfl
theorem szRea : (Try.prog.info? 38).map (·.size) = some 5 := by kernel_rfl
theorem szFra : (Try.prog.info? 25).map (·.size) = some 9 := by kernel_rfl
theorem oneRea (a b c : Int) (A : Option Addr) (n k : Nat) (d : Int) : (#[.int .i64 a, .int .i64 b, .int .i64 c, .slice A n k, .int .i64 d] : Array Value).all (·.oneCell') = true := ux.oneRea a b c A n k d
theorem oneFra (a b c d e : Int) (m r : Bool) (g : Int) (A : Option Addr) (n k : Nat) : (#[.int .i64 a, .int .i64 b, .int .i64 c, .int .i64 d, .int .i64 e, .bool m, .bool r, .int .i64 g, .slice A n k] : Array Value).all (·.oneCell') = true := ux.oneFra a b c d e m r g A n k
theorem ow_lo {E : TypeId} {k : IntKind} {w : World} {lo hi q n c : Nat} {zs : List Int} (h : Ow E k w lo hi (some ⟨q, 0, none⟩) n c zs) : lo ≤ w.heap.size := by
  rcases h.form with ⟨e, _⟩ | ⟨g, cur, _, h1, h2, _⟩
  · cases e
  · have := h.hi_; omega
theorem oe_box {α : Type} {S : Sh α} {w : World} {b : Nat} (h : Bx S.T w b #[]) : Oe S w b w.heap.size (some ⟨b, 0, none⟩) 0 0 [] := mq.oe_box h
theorem ow_box {w : World} {b : Nat} (h : Bx 5 w b #[]) : Ow 5 .u8 w b w.heap.size (some ⟨b, 0, none⟩) 0 0 [] :=
  ⟨⟨by simp, .inr ⟨b, 0, #[], rfl, Nat.le_refl _, h, Nat.le_refl _, by unfold maxLen; omega, by simp, by simp⟩⟩, Wf.nil _, Nat.le_refl _, fun g o e => by injection e with e; injection e with e _; subst e; exact h.lt⟩

end Go.Proofs.Ytbkdbdhbmabgcaa.fr
end

section
namespace Go.Proofs.Ytbkdbdhbmabgcaa.fr
open Go.RowKit sl harn bx mrw
set_option linter.unusedVariables false
set_option linter.unusedSimpArgs false

theorem zeroR : ∀ w : World, (zeroValue 38).run Try.prog w = .ok (.agg #[.int .i64 0, .int .i64 0, .int .i64 0, .slice none 0 0, .int .i64 0]) w := fun w => by kernel_rfl
theorem szI : (Try.prog.info? 38).map (·.size) = some 5 := by kernel_rfl
set_option maxRecDepth 100000 in
set_option maxHeartbeats 4000000 in
theorem delR (es : List (El ux.Rea)) (g n cap lo hi i j : Nat) (hj : i + 1 = j) (hin : i < n) (hn : n ≤ 67108864) (w : World) (h : Oe reaS w lo hi (some ⟨g, 0, none⟩) n cap es) :
    Calls Try.prog 62 #[.slice (some ⟨g, 0, none⟩) n cap, .int .i64 (i : Int), .int .i64 (j : Int)] w (fun e w' => e = .returned (.slice (some ⟨g, 0, none⟩) (n - 1) cap) ∧ Oe reaS w' lo hi (some ⟨g, 0, none⟩) (n - 1) cap (es.eraseIdx i) ∧ w.grownBy w' (some g)) := by
  obtain ⟨i0, hi0, hz0, hz1, hz2⟩ := info_parts infoR
  have HO := Lib.hid h
  have hcp : n ≤ cap ∧ cap ≤ 9223372036854775807 := h.rq.cap_
  clear h hz0 hz2
  obtain ⟨ad, had, hs2⟩ := sliceS_post (P := Try.prog) 31 38 i0 5 Try.underlying31 hi0 hz1 g n cap (i + 1) (by omega) hcp.1
  have hs0 := fun W => sliceS_three (P := Try.prog) 31 38 i0 5 Try.underlying31 hi0 hz1 g n cap i (i + 1) n (by omega) (by omega) hcp.1 W
  have hs1 := fun W => sliceS_pre (P := Try.prog) 31 38 i0 5 Try.underlying31 hi0 hz1 g n cap i (by omega) W
  have hs3 := fun W => sliceS_mid (P := Try.prog) 31 38 i0 5 Try.underlying31 hi0 hz1 g (n - 1) cap (n - 1) n (by omega) hcp.1 W
  have e3 : n - (n - 1) = 1 := by omega
  rw [e3] at hs3
  rw [hj] at had hs2 hs0
  have HAD := Lib.hid had
  have HJ := Lib.hid hj
  have hij : ((i : Int) == (j : Int)) = false := by simp; omega
  have HI := Lib.hid (And.intro hi0 hz1)
  have HS1 := Lib.hid hs1
  have HS2 := Lib.hid hs2
  have HS3 := Lib.hid hs3
  have hz3 : ∀ W, (Instr.sliceAt 31 (.slice (some ⟨g, 0, none⟩) n cap) (some (.int .i64 i)) (some (.int .i64 j)) (some (.int .i64 n))).run Try.prog W = .ok (.slice (some ⟨g, i * 5, none⟩) (j - i) (n - i)) W := fun W => by rw [at_slice _ _ Try.underlying31]; exact hs0 W
  clear had hs1 hs2 hs3 hj hi0 hz1 hs0
  go_enter Try.func62, Try.ntmps62
  skip
  go_upto_region 5 with fail
  refine reg.region_tail reg.Bel 6 33 [some [], some [], some [(0, 20), (1, 21)], some [], some [], some [(3, 23), (4, 24)], none, none] [(0, 20), (1, 21), (2, 22), (3, 23), (4, 24), (5, 25)]
    (fun w' => Below w.heap.size w w' ∧ Oe reaS w' lo hi (some ⟨g, 0, none⟩) n cap es ∧ w.grownBy w' (some g))
    (reg.rl [reg.is (.slice (some ⟨g, 0, none⟩) n cap), reg.is (.int .i64 ((i : Int))), reg.is (.slice (some ⟨g, 0, none⟩) i cap), reg.is (.slice (some ⟨g, 0, none⟩) n cap), reg.is (.int .i64 ((j : Int))), reg.is (.slice (some ad) (n - j) (cap - j)), reg.free, reg.free])
    (by kernel_rfl) rfl (by kernel_rfl) (by kernel_rfl) rfl
    (fun w1 w2 hc hb => ⟨hc.1.trans (hb.mono hc.1.size), hc.2.1.below hb, grown_trans hc.2.2 (grown_below hb _)⟩) (reg.rl_keep _) (⟨own.below_drew (Below.refl _ _), HO.out.same (Nat.le_refl _) (fun _ _ _ => rfl), grown_below (own.below_drew (Below.refl _ _)) _⟩) (by kernel_rfl) ⟨?_, ?_, ?_, ?_, ?_, ?_, trivial⟩ ?_
  · refine fun w8 hc  K hK => ?_
    (try simp only [Act.put, List.setIfInBounds_toArray, List.set_cons_zero, List.set_cons_succ])
    go_simp
    exact hK (.slice (some ⟨g, 0, none⟩) n cap) _ rfl (Below.refl _ _)
  · refine fun w8 hc  K hK => ?_
    (try simp only [Act.put, List.setIfInBounds_toArray, List.set_cons_zero, List.set_cons_succ])
    go_simp
    exact hK (.int .i64 ((i : Int))) _ rfl (Below.refl _ _)
  · refine fun w8 hc v0 h0 v1 h1 K hK => ?_
    obtain rfl : v0 = .slice (some ⟨g, 0, none⟩) n cap := h0
    obtain rfl : v1 = .int .i64 ((i : Int)) := h1
    (try simp only [Act.put, List.setIfInBounds_toArray, List.set_cons_zero, List.set_cons_succ])
    rw [if_pos (by rfl)]
    refine wp_slice_h 31 _ _ rfl (.slice (some ⟨g, 0, none⟩) n cap) (.int .i64 ((i : Int))) _ rfl rfl (fun W => by rw [at_slice _ _ Try.underlying31]; exact HS1.out W) ?_
    exact hK _ _ rfl (Below.refl _ _)
  · refine fun w8 hc  K hK => ?_
    (try simp only [Act.put, List.setIfInBounds_toArray, List.set_cons_zero, List.set_cons_succ])
    go_simp
    exact hK (.slice (some ⟨g, 0, none⟩) n cap) _ rfl (Below.refl _ _)
  · refine fun w8 hc  K hK => ?_
    (try simp only [Act.put, List.setIfInBounds_toArray, List.set_cons_zero, List.set_cons_succ])
    go_simp
    exact hK (.int .i64 ((j : Int))) _ rfl (Below.refl _ _)
  · refine fun w8 hc v3 h3 v4 h4 K hK => ?_
    obtain rfl : v3 = .slice (some ⟨g, 0, none⟩) n cap := h3
    obtain rfl : v4 = .int .i64 ((j : Int)) := h4
    (try simp only [Act.put, List.setIfInBounds_toArray, List.set_cons_zero, List.set_cons_succ])
    rw [if_pos (by rfl)]
    refine wp_slice_l 31 _ _ rfl (.slice (some ⟨g, 0, none⟩) n cap) (.int .i64 ((j : Int))) _ rfl rfl (fun W => by rw [at_slice _ _ Try.underlying31]; exact HS2.out W) ?_
    exact hK _ _ rfl (Below.refl _ _)
  refine fun w9 hc v0 h0 v1 h1 v2 h2 v3 h3 v4 h4 v5 h5 => ?_
  obtain rfl : v0 = .slice (some ⟨g, 0, none⟩) n cap := h0
  obtain rfl : v1 = .int .i64 ((i : Int)) := h1
  obtain rfl : v2 = .slice (some ⟨g, 0, none⟩) i cap := h2
  obtain rfl : v3 = .slice (some ⟨g, 0, none⟩) n cap := h3
  obtain rfl : v4 = .int .i64 ((j : Int)) := h4
  obtain rfl : v5 = .slice (some ad) (n - j) (cap - j) := h5
  (try simp only [reg.Obs])
  (try simp only [Act.put, List.setIfInBounds_toArray, List.set_cons_zero, List.set_cons_succ])
  simp only [List.drop_succ_cons, List.drop_zero]
  have O9 := Lib.hid hc.2.1
  have G9 := Lib.hid hc.2.2
  clear hc
  have hnj : n - j = n - (i + 1) := by have := HJ.out; omega
  have hz4 : ∀ W, (Instr.sliceAt 31 (.slice (some ⟨g, 0, none⟩) (n - 1) cap) (some (.int .i64 ((n - 1 : Nat) : Int))) (some (.int .i64 n)) none).run Try.prog W = .ok (.slice (some ⟨g, (n - 1) * 5, none⟩) 1 (cap - (n - 1))) W := fun W => by rw [at_slice _ _ Try.underlying31]; exact HS3.out W
  go_wp2_with (first
    | (at_builtin; refine list_drop _ rfl _ _ 31 rfl Try.underlying31 HI.out.1 HI.out.2 rfl rfl (by have := HJ.out; omega) O9.out (by omega) (fun hh => by rw [HAD.out (by have := HJ.out; omega), ← HJ.out]; rfl) ?_; intro w2 ho2 hg2; have O2 := Lib.hid ho2; have G2 := Lib.hid (grown_trans G9.out hg2); have TH := Lib.hid (O2.out.there (k := n - 1) (by omega)); have hcl := fun ty => run_clear_at (P := Try.prog) w2 31 38 ty _ Try.underlying31 zeroR (oneRea 0 0 0 none 0 0 0) g ((n - 1) * 5) (cap - (n - 1)) (by decide) TH.out; clear ho2 hg2))
  go_ret
  exact ⟨rfl, O2.out.tail (Nat.le_refl _) _ (by show (n - 1) * 5 + 5 ≤ cap * 5; omega), grown_setCells G2.out _⟩
end Go.Proofs.Ytbkdbdhbmabgcaa.fr
end

section
namespace Go.Proofs.Ytbkdbdhbmabgcaa.rgf
open Go Go.RowKit sl harn bx mrw
set_option linter.unusedVariables false

abbrev Rel := World → World → Prop
def Sb (p : Value → World → Prop) (e : Rel) : Prop := ∀ v w w', p v w → e w w' → p v w'
def AllC (C : World → Prop) : List Rel → Prop
  | [] => True
  | e :: r => (∀ w w', C w → e w w' → C w') ∧ AllC C r
def AllS (p : Value → World → Prop) (j : Nat) : Nat → List Rel → Prop
  | _, [] => True
  | k, e :: r => (k ≠ j → Sb p e) ∧ AllS p j (k + 1) r
/-- What is right of the value of operation j and stays so under what the others may do. -/
structure Sx (d : Rel) (Es : List Rel) (j : Nat) where
  p : Value → World → Prop
  hd : Sb p d
  hs : AllS p j 0 Es
theorem allS_pure {p : Value → Prop} {j : Nat} : ∀ (k : Nat) (Es : List Rel), AllS (fun v _ => p v) j k Es
  | _, [] => trivial
  | k, e :: r => ⟨fun _ _ _ _ h _ => h, allS_pure (k + 1) r⟩
def pureS {d : Rel} {Es : List Rel} {j : Nat} (x : Value) : Sx d Es j := ⟨fun v _ => v = x, fun _ _ _ h _ => h, allS_pure (p := fun v => v = x) 0 Es⟩
def freeS {d : Rel} {Es : List Rel} {j : Nat} : Sx d Es j := ⟨fun _ _ => True, fun _ _ _ h _ => h, allS_pure (p := fun _ => True) 0 Es⟩
theorem allS_get {p : Value → World → Prop} {j : Nat} : ∀ {Es : List Rel} {k i : Nat} {e : Rel}, AllS p j k Es → Es[i]? = some e → k + i ≠ j → Sb p e
  | [], _, _, _, _, h, _ => by simp at h
  | e :: r, k, 0, e', h, he, hne => by
    obtain rfl : e = e' := by simpa using he
    exact h.1 hne
  | e :: r, k, i + 1, e', h, he, hne => allS_get (k := k + 1) (i := i) h.2 (by simpa using he) (by omega)
theorem allC_get {C : World → Prop} : ∀ {Es : List Rel} {i : Nat} {e : Rel}, AllC C Es → Es[i]? = some e → ∀ w w', C w → e w w' → C w'
  | [], _, _, _, h => by simp at h
  | e :: r, 0, e', h, he => by
    obtain rfl : e = e' := by simpa using he
    exact h.1
  | e :: r, i + 1, e', h, he => allC_get (i := i) h.2 (by simpa using he)
section
variable {d : Rel} {Es : List Rel} {f : (j : Nat) → Sx d Es j}
theorem stab : ∀ i j v w w', i ≠ j → (f j).p v w → (Es.getD i d) w w' → (f j).p v w' := by
  intro i j v w w' hij hp he
  cases hi : Es[i]? with
  | none =>
    rw [List.getD_eq_getElem?_getD, hi] at he
    exact (f j).hd v w w' hp he
  | some e =>
    rw [List.getD_eq_getElem?_getD, hi] at he
    exact allS_get (k := 0) (f j).hs hi (by omega) v w w' hp he
theorem stabC {C : World → Prop} (h0 : ∀ w w', C w → d w w' → C w') (h : AllC C Es) : ∀ i w w', C w → (Es.getD i d) w w' → C w' := by
  intro i w w' hc he
  cases hi : Es[i]? with
  | none => rw [List.getD_eq_getElem?_getD, hi] at he; exact h0 w w' hc he
  | some e => rw [List.getD_eq_getElem?_getD, hi] at he; exact allC_get h hi w w' hc he
end
variable {P : Program} {Q : Exit → Act → World → Prop} {a0 : Act}
theorem region_tail {id : Nat} {l : List Oper} {w : World} (d : Rel) (Es : List Rel) (f : (j : Nat) → Sx d Es j) (s N : Nat) (nd : List (Option (List (Nat × Tmp)))) (hd : List (Nat × Tmp)) (C : World → Prop) (hm : P.follows .mixedOrders = true) (hs : decide (s < l.length) = true) (hB : reg.okB l.toArray s N [] nd = true)
    (hT : Region.seqB .any l.toArray (l.length - s) s (reg.upTo l.length s) = true) (hN : a0.tmps.size = N) (h0C : ∀ w w', C w → d w w' → C w') (hC : AllC C Es) (h0 : C w.drew) (hH : reg.heads l.toArray s = hd) (hA : reg.All (fun i => Es.getD i d) [] P l.toArray (fun j v w => (f j).p v w) C a0 0 l nd)
    (hF : ∀ w, C w → reg.Obs l.toArray (fun j v w => (f j).p v w) w (fun c => wpList P l.toArray Q (l.drop s) c w) hd a0) : (Code.region id l.toArray true).wp P Q a0 w :=
  rgp.region_tailE (fun i => Es.getD i d) s N nd hd C _ hm hs hB hT hN (stabC h0C hC) stab h0 hH hA hF
theorem region_free {id : Nat} {l : List Oper} {w : World} (d : Rel) (Es : List Rel) (f : (j : Nat) → Sx d Es j) (N : Nat) (rf : List (Nat × Tmp)) (nd : List (Option (List (Nat × Tmp)))) (hd : List (Nat × Tmp)) (C : World → Prop) (hm : P.follows .mixedOrders = true) (hB : reg.okB l.toArray l.length N rf nd = true) (hN : a0.tmps.size = N)
    (h0C : ∀ w w', C w → d w w' → C w') (hC : AllC C Es) (h0 : C w.drew) (hH : reg.heads l.toArray l.length = hd) (hA : reg.All (fun i => Es.getD i d) rf P l.toArray (fun j v w => (f j).p v w) C a0 0 l nd)
    (hF : ∀ w, C w → reg.Obs l.toArray (fun j v w => (f j).p v w) w (fun c => (∀ x ∈ rf, rf.lookup x.1 = some x.2 → (f x.1).p (reg.look c (some x.2)) w) → Q .normal c w) hd a0) : (Code.region id l.toArray true).wp P Q a0 w :=
  reg.region_free (fun i => Es.getD i d) N rf nd hd C _ hm hB hN (stabC h0C hC) stab h0 hH hA hF
end Go.Proofs.Ytbkdbdhbmabgcaa.rgf
end

section
namespace Go.Proofs.Ytbkdbdhbmabgcaa.reg
open Go Go.RowKit
set_option linter.unusedVariables false

section
variable {P : Program} {ops : Array Oper} {Q : Exit → Act → World → Prop} {C : World → Prop} {R : Nat → Value → World → Prop} {a0 : Act} {E : Nat → World → World → Prop} {rf : List (Nat × Tmp)}
theorem step_opU {l : List Oper} {s N : Nat} {nd : List (Option (List (Nat × Tmp)))} (H : Ok l.toArray s N rf nd) (hN : a0.tmps.size = N) (hC : ∀ i w w', C w → E i w w' → C w') (hR : ∀ i j v w w', i ≠ j → R j v w → E i w w' → R j v w')
    {L : Array Bool} {a : Act} {w : World} (I : Inv rf C R l.toArray a0 s L a w) {i : Nat} (his : i < s) (hr : i ∈ Region.ready .any l.toArray L)
    (hob : ∀ o d, l.toArray[i]? = some o → nd[i]? = some (some d) → Obs l.toArray R w (fun c => ∀ K : Act → World → Prop, (∀ v w', R i (told rf c i v o.dst) w' → E i w w' → K (c.put o.dst v) w') → if Region.wanted o (yielded l.toArray c.tmps) = true then Oper.wp P o c w K QF else K (c.put o.dst undef) w) d a0) {K : Act → World → Prop}
    (hK : ∀ a' w', Inv rf C R l.toArray a0 s (L.setIfInBounds i true) a' w' → E i w w' → K a' w') : wpOp P l.toArray Q i K a w := by
  obtain ⟨hun, o, ho, hall⟩ := mem_ready.1 hr
  have hd : dst l.toArray i = o.dst := by unfold dst; rw [ho]; rfl
  obtain ⟨d, hnd, hdep, hlook⟩ := H.need i o ho his
  have hlist : ∀ j ∈ d, L.getD j.1 false = true := fun j hj => by
    obtain ⟨e, he, hb, hon⟩ := edge_of (hdep j hj).1 ho
    rw [← hon]; exact hall e he hb
  have hc := obs_puts (a := a) _ _ (hob o d ho hnd) fun j hj => by
    have := I.right j.1 (hlist j hj) (by rw [(hdep j hj).2.1]; rfl)
    rwa [(hdep j hj).2.1] at this
  have hcs : (puts l.toArray a d a0).tmps.size = a.tmps.size := by rw [puts_size]; exact I.size.symm
  have hag : ∀ k ∈ o.looksAt l.toArray, a.tmps.getD k undef = (puts l.toArray a d a0).tmps.getD k undef := fun k hk => by
    rcases hlook k hk with h | h
    · exact (puts_in a d a0 I.size h).symm
    · refine (puts_kept a d a0 I.size (I.base k fun j hl => h j ?_).symm).symm
      rcases Nat.lt_or_ge j s with h' | h'
      · exact h'
      · rw [I.tail j h'] at hl; cases hl
  have hsel := Region.noSelect_spec H.sel i o
  have h1 := hc (fun a' w' => ∃ v, a' = (puts l.toArray a d a0).put o.dst v ∧ R i (told rf (puts l.toArray a d a0) i v o.dst) w' ∧ E i w w') fun v w' h2 h3 => ⟨v, rfl, h2, h3⟩
  have fin : ∀ v w', (∃ v', (puts l.toArray a d a0).put o.dst v = (puts l.toArray a d a0).put o.dst v' ∧ R i (told rf (puts l.toArray a d a0) i v' o.dst) w' ∧ E i w w') → K (a.put o.dst v) w' := fun v w' ⟨v', e, h2, h3⟩ =>
    hK _ _ (inv_step H hN hC hR I ho his hr (fun hsm => by
      rw [hd] at hsm ⊢
      cases hx' : o.dst with
      | some x =>
        rw [hx'] at e h2
        have hx : dst l.toArray i = some x := by rw [hd]; exact hx'
        have hlt : x < (puts l.toArray a d a0).tmps.size := by rw [puts_size, hN]; exact H.room i x hx
        have h4 : ((puts l.toArray a d a0).put (some x) v).tmps.getD x undef = ((puts l.toArray a d a0).put (some x) v').tmps.getD x undef := by rw [e]
        rw [put_at hlt, put_at hlt] at h4
        show R i v w'
        rw [h4]; exact h2
      | none =>
        rw [hx'] at h2 hsm
        show R i (look a (rf.lookup i)) w'
        have h2' : R i (look (puts l.toArray a d a0) (rf.lookup i)) w' := h2
        obtain ⟨x, hx⟩ := Option.isSome_iff_exists.1 hsm
        have hx2 : rf.lookup i = some x := hx
        rw [hx2] at h2' ⊢
        obtain ⟨_, _, l', k, hl1, hkl⟩ := H.refs i x hx2
        obtain rfl : l' = d := by simpa using hl1.symm.trans hnd
        have e2 : (puts l.toArray a l' a0).tmps.getD x undef = a.tmps.getD x undef := puts_in a l' a0 I.size ⟨(k, x), hkl, rfl⟩
        have e3 : look (puts l.toArray a l' a0) (some x) = look a (some x) := e2
        rw [← e3]; exact h2') h3) h3
  unfold wpOp
  rw [ho]
  simp only
  rw [wanted_same hcs.symm hag]
  split
  · rename_i hw
    rw [if_pos hw] at h1
    refine .inl ?_
    unfold Oper.wp at h1 ⊢
    rw [exec_same (fun cs b => hsel cs b ho) hag]
    refine upon_move fin (fun dd w' hh => ?_) h1
    obtain ⟨v', e, _⟩ := hh
    have := congrArg Act.defers e
    rw [put_defers, put_defers] at this
    exact absurd (congrArg List.length this) (by simp)
  · rename_i hw
    rw [if_neg hw] at h1
    exact fin _ _ h1


/-- One operation's duty, told what holds as long as it is not done. -/
def ObU (U : Nat → World → Prop) (E : Nat → World → World → Prop) (rf : List (Nat × Tmp)) (P : Program) (ops : Array Oper) (R : Nat → Value → World → Prop) (C : World → Prop) (a0 : Act) (i : Nat) (o : Oper) (d : List (Nat × Tmp)) : Prop :=
  ∀ w, C w → U i w → Obs ops R w (fun c => ∀ K : Act → World → Prop, (∀ v w', R i (told rf c i v o.dst) w' → E i w w' → K (c.put o.dst v) w') →
    if Region.wanted o (yielded ops c.tmps) = true then Oper.wp P o c w K QF else K (c.put o.dst undef) w) d a0
def AllU (U : Nat → World → Prop) (E : Nat → World → World → Prop) (rf : List (Nat × Tmp)) (P : Program) (ops : Array Oper) (R : Nat → Value → World → Prop) (C : World → Prop) (a0 : Act) : Nat → List Oper → List (Option (List (Nat × Tmp))) → Prop
  | i, o :: l, some d :: nd => ObU U E rf P ops R C a0 i o d ∧ AllU U E rf P ops R C a0 (i + 1) l nd
  | i, _ :: l, none :: nd => AllU U E rf P ops R C a0 (i + 1) l nd
  | _, _, _ => True
theorem all_getU {U : Nat → World → Prop} : ∀ (l : List Oper) (nd : List (Option (List (Nat × Tmp)))) (k : Nat), AllU U E rf P ops R C a0 k l nd → ∀ (i : Nat) (o : Oper) (d : List (Nat × Tmp)), l[i]? = some o → nd[i]? = some (some d) → ObU U E rf P ops R C a0 (k + i) o d
  | [], _, _, _, i, o, d, ho, _ => by simp at ho
  | o :: l, [], _, _, i, _, d, _, hd => by simp at hd
  | o :: l, none :: nd, k, h, 0, _, d, _, hd => by simp at hd
  | o :: l, none :: nd, k, h, i + 1, o', d, ho, hd => by
    have := all_getU l nd (k + 1) h i o' d (by simpa using ho) (by simpa using hd)
    rwa [show k + 1 + i = k + (i + 1) by omega] at this
  | o :: l, some e :: nd, k, h, 0, o', d, ho, hd => by
    simp at ho hd
    subst ho hd
    exact h.1
  | o :: l, some e :: nd, k, h, i + 1, o', d, ho, hd => by
    have := all_getU l nd (k + 1) h.2 i o' d (by simpa using ho) (by simpa using hd)
    rwa [show k + 1 + i = k + (i + 1) by omega] at this
theorem u_step {U : Nat → World → Prop} (hU : ∀ i j w w', i ≠ j → U j w → E i w w' → U j w') {L : Array Bool} {i : Nat} {w w' : World} (hi : i < L.size) (h : ∀ j, L.getD j false = false → U j w) (he : E i w w') : ∀ j, (L.setIfInBounds i true).getD j false = false → U j w' := by
  intro j hj
  by_cases hij : i = j
  · subst hij
    rw [set_at hi] at hj; cases hj
  · rw [getD_set_ne false hij] at hj
    exact hU i j w w' hij (h j hj) he
theorem any_plainU {U : Nat → World → Prop} {l : List Oper} {N : Nat} {nd : List (Option (List (Nat × Tmp)))} (H : Ok l.toArray l.length N rf nd) (hN : a0.tmps.size = N) (hC : ∀ i w w', C w → E i w w' → C w') (hR : ∀ i j v w w', i ≠ j → R j v w → E i w w' → R j v w') (hU : ∀ i j w w', i ≠ j → U j w → E i w w' → U j w')
    (hA : AllU U E rf P l.toArray R C a0 0 l nd) (hF : ∀ w, C w → Obs l.toArray R w (fun c => (∀ x ∈ rf, rf.lookup x.1 = some x.2 → R x.1 (look c (some x.2)) w) → Q .normal c w) (heads l.toArray l.length) a0) : ∀ (fuel : Nat) (L : Array Bool) (a : Act) (w : World), L.toList.count false ≤ fuel → Inv rf C R l.toArray a0 l.length L a w → (∀ j, L.getD j false = false → U j w) →
    wpAny P .any l.toArray Q fuel L a w := by
  intro fuel
  have fin : ∀ (L : Array Bool) (a : Act) (w : World), Region.ready .any l.toArray L = [] → Inv rf C R l.toArray a0 l.length L a w → Q .normal a w := fun L a w h0 I => by
    have hall : ∀ i, i < l.toArray.size → L.getD i false = true := fun i hi => by
      cases hx : L.getD i false with
      | true => rfl
      | false => exact absurd h0 (some_ready H I.len (i + 1) i (by omega) hi (getD_in (by rw [I.len]; exact hi) hx))
    refine all_done H I (fun i _ hi => hall i hi) (hF w I.c) fun x hx hlk => ?_
    obtain ⟨h1, h2, _⟩ := H.refs x.1 x.2 hlk
    have := I.right x.1 (hall x.1 (by simpa using h2)) (by rw [h1]; simp only [slot, hlk]; rfl)
    rw [h1] at this
    simp only [slot, hlk] at this
    exact this
  induction fuel with
  | zero =>
    intro L a w hc I hu
    have h0 : Region.ready .any l.toArray L = [] := List.eq_nil_iff_forall_not_mem.2 fun i hi => by
      have := (mem_ready.1 hi).1
      rw [none_left (by omega) i] at this; cases this
    exact ⟨h0, fin L a w h0 I⟩
  | succ fuel ih =>
    intro L a w hc I hu
    refine ⟨fun h0 => fin L a w h0 I, fun i hi => ?_⟩
    obtain ⟨hun, o, ho, _⟩ := mem_ready.1 hi
    have hin : i < l.toArray.size := (Array.getElem?_eq_some_iff.1 ho).1
    have hiL : i < L.size := by rw [I.len]; exact hin
    have hf : L.getD i false = false := getD_both hun
    refine step_opU H hN hC hR I (by simpa using hin) hi (fun o' d ho' hnd => ?_) fun a' w' I' he => ih _ _ _ (by have := count_set hun; omega) I' (u_step hU hiL hu he)
    have := all_getU l nd 0 hA i o' d (by simpa using ho') hnd
    rw [Nat.zero_add] at this
    exact this w I.c (hu i hf)
theorem inv_startU {U : Nat → World → Prop} {n : Nat} {w : World} (h : ∀ j, U j w) : ∀ j, (Array.replicate n false).getD j false = false → U j w := fun j _ => h j
end
end Go.Proofs.Ytbkdbdhbmabgcaa.reg
namespace Go.Proofs.Ytbkdbdhbmabgcaa.rgf
open Go Go.RowKit sl harn bx mrw
set_option linter.unusedVariables false
variable {P : Program} {Q : Exit → Act → World → Prop} {a0 : Act}
/-- The rule: u: an operation of which Uo says what holds as long as it is not done. -/
theorem region_freeU {id : Nat} {l : List Oper} {w : World} (d : Rel) (Es : List Rel) (f : (j : Nat) → Sx d Es j) (u : Nat) (Uo : Sx d Es u) (N : Nat) (rf : List (Nat × Tmp)) (nd : List (Option (List (Nat × Tmp)))) (hd : List (Nat × Tmp)) (C : World → Prop) (hm : P.follows .mixedOrders = true) (hB : reg.okB l.toArray l.length N rf nd = true) (hN : a0.tmps.size = N)
    (h0C : ∀ w w', C w → d w w' → C w') (hC : AllC C Es) (h0 : C w.drew) (hU0 : Uo.p undef w.drew) (hH : reg.heads l.toArray l.length = hd) (hA : reg.AllU (fun i w => i = u → Uo.p undef w) (fun i => Es.getD i d) rf P l.toArray (fun j v w => (f j).p v w) C a0 0 l nd)
    (hF : ∀ w, C w → reg.Obs l.toArray (fun j v w => (f j).p v w) w (fun c => (∀ x ∈ rf, rf.lookup x.1 = some x.2 → (f x.1).p (reg.look c (some x.2)) w) → Q .normal c w) hd a0) : (Code.region id l.toArray true).wp P Q a0 w :=
  wp_region_any hm (by
    subst hH
    refine reg.any_plainU (U := fun i w => i = u → Uo.p undef w) (Q := Q) (reg.ok_of hB) hN (stabC h0C hC) (stab (f := f)) (fun i j w w' hij hu he hj => ?_) hA hF _ _ a0 w.drew (by simp) (reg.inv_start h0) (reg.inv_startU (U := fun i w => i = u → Uo.p undef w) fun j _ => hU0)
    subst hj
    exact stab (f := fun k => if h : k = j then h ▸ Uo else freeS) i j undef w w' hij (by simpa using hu rfl) he |> fun q => by simpa using q)
end Go.Proofs.Ytbkdbdhbmabgcaa.rgf
end

section
namespace Go.Proofs.Ytbkdbdhbmabgcaa.mrw
open Go.RowKit sl harn bx
set_option linter.unusedVariables false
set_option linter.unusedSimpArgs false

section
variable {α : Type} {S : Sh α} {w w' : World} {lo hi n cap : Nat} {A : Option Addr} {xs : List α} {es : List (El α)}
theorem Oe.more2 {P : Program} (t ty : TypeId) (i : TypeInfo) (z : Value) (h1 : P.underlying t = some (.slice S.T)) (h2 : P.info? S.T = some i) (h3 : i.zero = some z) (h4 : i.size = S.s) (h5 : i.bytes ≤ 128) (h6 : z.cells.size = S.s)
    (h : Oe S w lo hi A n cap es) (ad : Addr) (m c : Nat) (fs : List (El α)) (hm : fs.length = m) (hsrc : ∀ j u, (flat S fs)[j]? = some u → w.cell? (ad.add j) = some u)
    (hb : ∀ f ∈ fs, ∃ lo2 hi2, lo ≤ lo2 ∧ Ow 5 .u8 w lo2 hi2 f.A f.n f.c (S.B f.x)) (hd : Ds (es ++ fs)) (hn : n + m ≤ 1073741824) (hlo : lo ≤ w.heap.size) :
    ∃ A' cap' w', (Builtin.append_ #[t, t] ty #[.slice A n cap, .slice (some ad) m c]).run P w = .ok (.slice A' (n + m) cap') w' ∧ Oe S w' lo w'.heap.size A' (n + m) cap' (es ++ fs) ∧ w.grownBy w' (blkOf A) ∧ (blkOf A' = blkOf A ∨ ∀ q, blkOf A' = some q → w.heap.size ≤ q) ∧
      (∀ lo' hi' A2 n2 c2 es2, n2 ≤ n → Oe S w lo' hi' A2 n2 c2 es2 → Oe S w' lo' hi' A2 n2 c2 es2) ∧ ((m = 0 ∨ cap < n + m) → Below w.heap.size w w') := by
  have hb8 : (n + m) * i.bytes ≤ 140737488355328 := by
    have := Nat.mul_le_mul hn h5
    omega
  obtain ⟨A', cap', w', hrun, g1, g2, _, g4⟩ := h.more (P := P) t ty i z h1 h2 h3 h4 h5 h6 ad m c fs hm hsrc hb hd hn hlo
  have same : ∀ {v : Value} {u : World}, (Builtin.append_ #[t, t] ty #[.slice A n cap, .slice (some ad) m c]).run P w = .ok v u → w' = u := by
    intro v u hu
    rw [hrun] at hu
    injection hu
  refine ⟨A', cap', w', hrun, g1, g2, g4, ?_⟩
  have fresh : Below w.heap.size w w' → (∀ lo' hi' A2 n2 c2 es2, n2 ≤ n → Oe S w lo' hi' A2 n2 c2 es2 → Oe S w' lo' hi' A2 n2 c2 es2) ∧ ((m = 0 ∨ cap < n + m) → Below w.heap.size w w') := fun hB => ⟨fun _ _ _ _ _ _ _ ho => ho.below hB, fun _ => hB⟩
  by_cases hm0 : m = 0
  · subst hm0
    have hf : fs = [] := List.eq_nil_of_length_eq_zero hm
    subst hf
    refine fresh ?_
    have : (Builtin.append_ #[t, t] ty #[.slice A n cap, .slice (some ad) 0 c]).run P w = .ok (.slice A n cap) w := by
      rcases h.form with ⟨rfl, rfl, rfl⟩ | ⟨g, cur, rfl, _, _, _, hnc, _⟩
      · simp [Builtin.append_, run_underlying h1, sizeOf, typeInfo, h2, Builtin.lenOf, Builtin.firstCells, loadCells, loadCellsFrom]
      · simp [Builtin.append_, run_underlying h1, sizeOf, typeInfo, h2, Builtin.lenOf, Builtin.firstCells, hnc, storeCells, loadCells, loadCellsFrom]
    rw [same this]
    exact Below.refl _ _
  · rcases h.form with ⟨rfl, rfl, rfl⟩ | ⟨g, cur, rfl, hg1, hg2, hcur, hnc, hcm, hcs, htake⟩
    · refine fresh ?_
      have hr := run_append_nil (P := P) w t ty S.T i z h1 h2 h3 ad m c (flat S fs) (by rw [flat_len, hm, h4]) hsrc (by omega) (by omega) (by have hb := hb8; simp only [Nat.zero_add] at hb; omega)
      rw [same hr]
      exact ⟨rfl, rfl, rfl, by simp, fun k hk => heap_alloc_old w.drew _ hk⟩
    · by_cases hroom : n + m ≤ cap
      · obtain ⟨u, hr, k1, k2⟩ := run_append_fits (P := P) w lo t ty S.T i S.s h1 h2 h4 g n cap (flat S es) h.row ad m c (flat S fs) (by rw [flat_len, hm]) hsrc (flat_one S fs) hroom
        obtain rfl := same hr
        obtain ⟨cur', q1, q2, q3, q4, q5, q6⟩ := row_at k1
        refine ⟨fun lo' hi' A2 n2 c2 es2 hn2 ho => ?_, fun hh => by omega⟩
        have hbody : ∀ e ∈ es2, Ow 5 .u8 w' lo' hi' e.A e.n e.c (S.B e.x) := fun e he => ow_grown h g2 (ho.body e he)
        refine ⟨⟨ho.row.1, ?_⟩, hbody, ho.ds, by have := ho.hi_; have := g2.size; omega, ho.lt⟩
        rcases ho.row.2 with r0 | ⟨g', c', cur2, e, r1, r2, r3, r4, r5, r6⟩
        · exact Or.inl r0
        · by_cases hgg : g' = g
          · subst hgg
            rw [hcur] at r2
            simp only [Option.some.injEq, Obj.cells.injEq] at r2
            obtain ⟨rfl, _⟩ := r2
            have ec : c' = cap := Nat.eq_of_mul_eq_mul_right S.pos (by rw [← r5, hcs])
            refine Or.inr ⟨g', c', cur', e, r1, q1, r3, r4, by rw [q5, ec], ?_⟩
            have e1 := congrArg (List.take (n2 * S.s)) q6
            rw [List.take_take, Nat.min_eq_left (Nat.mul_le_mul_right _ (by omega)), List.take_append_of_le_length (by rw [flat_len, h.len]; exact Nat.mul_le_mul_right _ hn2)] at e1
            rw [e1, ← htake, List.take_take, Nat.min_eq_left (Nat.mul_le_mul_right _ hn2)]
            exact r6
          · refine Or.inr ⟨g', c', cur2, e, r1, ?_, r3, r4, r5, r6⟩
            rw [g2.block g' (lt_of_block r2) (by simpa using hgg)]
            exact r2
      · refine fresh ?_
        have holds : ∀ j u, (flat S es)[j]? = some u → w.cell? ((⟨g, 0, none⟩ : Addr).add j) = some u := h.row.cells (g := g) rfl
        have hr := run_append_grow (P := P) w t ty S.T i z h1 h2 h3 ⟨g, 0, none⟩ n cap (flat S es) (by rw [h4]; exact h.row.1) holds ad m c (flat S fs) (by rw [flat_len, hm, h4]) hsrc (by omega) (by omega) (growslice_fits (by omega) hb8)
        rw [same hr]
        exact ⟨rfl, rfl, rfl, by simp, fun k hk => heap_alloc_old w.drew _ hk⟩
end
end Go.Proofs.Ytbkdbdhbmabgcaa.mrw
namespace Go.Proofs.Ytbkdbdhbmabgcaa.rgf
open Go Go.RowKit sl harn bx mrw
set_option linter.unusedVariables false
section
variable {α : Type} {S : Sh α}
/-- The worlds behind B in which short rows stay. -/
def Kp (S : Sh α) (B z : Nat) : Rel := fun ua ub => Below B ua ub ∧ ∀ lo' hi' A' n' c' es', n' ≤ z → Oe S ua lo' hi' A' n' c' es' → Oe S ub lo' hi' A' n' c' es'
/-- A row of the call's own above B. -/
def rowB (S : Sh α) (lo B n : Nat) (es : List (El α)) (v : Value) (w : World) : Prop := ∃ A c hi, v = .slice A n c ∧ Oe S w lo hi A n c es ∧ ∀ q, blkOf A = some q → B ≤ q
/-- The same, without spare cells. -/
def rowE (S : Sh α) (lo B : Nat) (v : Value) (w : World) : Prop := ∃ q hi, v = .slice (some ⟨q, 0, none⟩) 0 0 ∧ Oe S w lo hi (some ⟨q, 0, none⟩) 0 0 [] ∧ B ≤ q
theorem rowB_below {lo B n : Nat} {es : List (El α)} : Sb (rowB S lo B n es) reg.Bel := fun v w w' ⟨A, c, hi, e, ho, hq⟩ hb => ⟨A, c, hi, e, ho.below hb, hq⟩
theorem rowE_below {lo B : Nat} : Sb (rowE S lo B) reg.Bel := fun v w w' ⟨q, hi, e, ho, hq⟩ hb => ⟨q, hi, e, ho.below hb, hq⟩
theorem rowB_kp {lo B n z : Nat} {es : List (El α)} (hn : n ≤ z) : Sb (rowB S lo B n es) (Kp S B z) := fun v w w' ⟨A, c, hi, e, ho, hq⟩ hb => ⟨A, c, hi, e, hb.2 _ _ _ _ _ _ hn ho, hq⟩
theorem rowE_kp {lo B z : Nat} : Sb (rowE S lo B) (Kp S B z) := fun v w w' ⟨q, hi, e, ho, hq⟩ hb => ⟨q, hi, e, hb.2 _ _ _ _ _ _ (Nat.zero_le _) ho, hq⟩
/-- The first append: onto the empty row. -/
theorem wp_first {P : Program} {o : Oper} {a : Act} {w : World} {K : Act → World → Prop} {Q : Exit → Act → World → Prop} (s x : Operand) (t : TypeId)
    (hop : o.op = .call { callee := .builtin .append, args := #[s, x], argTypes := #[t, t] })
    {i : TypeInfo} {z : Value} (h1 : P.underlying t = some (.slice S.T)) (h2 : P.info? S.T = some i) (h3 : i.zero = some z) (h4 : i.size = S.s) (h5 : i.bytes ≤ 128) (h6 : z.cells.size = S.s)
    {lo hi0 hi n q B : Nat} {es : List (El α)} {g cp k : Nat} (hs : a.eval s = .slice (some ⟨q, 0, none⟩) 0 0) (hx : a.eval x = .slice (some ⟨g, 0, none⟩) k cp) (h0 : Oe S w lo hi0 (some ⟨q, 0, none⟩) 0 0 []) (hB : B ≤ q) (hBw : B ≤ w.heap.size) (ho : Oe S w lo hi (some ⟨g, 0, none⟩) n cp es) (hk : k ≤ n) (hn : n ≤ 1073741824) (hlo : lo ≤ w.heap.size)
    (hK : ∀ v w', rowB S lo B k (es.take k) v w' → Below w.heap.size w w' → K (a.put o.dst v) w') : Oper.wp P o a w K Q := by
  have hl := ho.len
  obtain ⟨A', cap', w', hrun, g1, g2, g4, _, g6⟩ := h0.more2 (P := P) t o.type i z h1 h2 h3 h4 h5 h6 ⟨g, 0, none⟩ k cp (es.take k) (by rw [List.length_take]; omega) (fun j u hu => by
    rw [← flat_take, List.getElem?_take] at hu
    split at hu
    · exact ho.row.cells (g := g) rfl j u hu
    · cases hu) (fun f hf => ⟨lo, hi, Nat.le_refl _, ho.body f (List.mem_of_mem_take hf)⟩) (by rw [List.nil_append]; exact List.Pairwise.sublist (List.take_sublist _ _) ho.ds) (by omega) hlo
  rw [Nat.zero_add, List.nil_append] at g1
  unfold Oper.wp execOp
  simp only [hop, resolve, invoke, builtin, Sem.run_bind, Sem.run_pure, Result.andThen_ok, List.map_toArray, List.map_cons, List.map_nil, hs, hx, hrun]
  rw [Nat.zero_add]
  refine hK _ w' ⟨A', cap', _, rfl, g1, fun q' hq' => ?_⟩ (g6 (by omega))
  rcases g4 with g4 | g4
  · rw [g4] at hq'
    have : q = q' := by simpa using hq'
    omega
  · have := g4 q' hq'; omega
/-- The second append: the last part. -/
theorem wp_second {P : Program} {o : Oper} {a : Act} {w : World} {K : Act → World → Prop} {Q : Exit → Act → World → Prop} (s x : Operand) (t : TypeId)
    (hop : o.op = .call { callee := .builtin .append, args := #[s, x], argTypes := #[t, t] })
    {i : TypeInfo} {z : Value} (h1 : P.underlying t = some (.slice S.T)) (h2 : P.info? S.T = some i) (h3 : i.zero = some z) (h4 : i.size = S.s) (h5 : i.bytes ≤ 128) (h6 : z.cells.size = S.s)
    {lo hi0 hi n c B : Nat} {A : Option Addr} {es : List (El α)} {g cp k m c2 : Nat} {ad : Addr} (hs : a.eval s = .slice A k c) (hx : a.eval x = .slice (some ad) m c2) (h0 : Oe S w lo hi0 A k c (es.take k)) (hB : ∀ q, blkOf A = some q → B ≤ q) (hBw : B ≤ w.heap.size) (ho : Oe S w lo hi (some ⟨g, 0, none⟩) n cp es) (hk : k < n) (hm : m = n - (k + 1)) (had : k + 1 < n → ad = ⟨g, (k + 1) * S.s, none⟩) (hn : n ≤ 1073741824) (hlo : lo ≤ w.heap.size)
    (hK : ∀ v w', rowB S lo B (n - 1) (es.eraseIdx k) v w' → Kp S B k w w' → K (a.put o.dst v) w') : Oper.wp P o a w K Q := by
  subst hm
  have hl := ho.len
  have hfl : (es.drop (k + 1)).length = n - (k + 1) := by rw [List.length_drop, hl]
  have e : k + (n - (k + 1)) = n - 1 := by omega
  obtain ⟨A', cap', w', hrun, g1, g2, g4, g5, _⟩ := h0.more2 (P := P) t o.type i z h1 h2 h3 h4 h5 h6 ad (n - (k + 1)) c2 (es.drop (k + 1)) hfl (fun q u hu => by
    have hq := (List.getElem?_eq_some_iff.1 hu).1
    rw [flat_len, hfl] at hq
    have hlt : k + 1 < n := by
      rcases Nat.lt_or_ge (k + 1) n with h | h
      · exact h
      · rw [show n - (k + 1) = 0 by omega] at hq; omega
    rw [had hlt, Addr.add_mid]
    rw [← flat_drop, List.getElem?_drop] at hu
    rw [ho.row.cellAt _ (by
      have : (n - (k + 1)) * S.s + (k + 1) * S.s = n * S.s := by rw [← Nat.add_mul]; congr 1; omega
      omega)]
    exact hu) (fun f hf => ⟨lo, hi, Nat.le_refl _, ho.body f (List.mem_of_mem_drop hf)⟩) (by rw [← List.eraseIdx_eq_take_drop_succ]; exact List.Pairwise.sublist (List.eraseIdx_sublist _ _) ho.ds) (by omega) hlo
  rw [← List.eraseIdx_eq_take_drop_succ] at g1
  rw [e] at hrun g1
  unfold Oper.wp execOp
  simp only [hop, resolve, invoke, builtin, Sem.run_bind, Sem.run_pure, Result.andThen_ok, List.map_toArray, List.map_cons, List.map_nil, hs, hx, hrun]
  refine hK _ w' ⟨A', cap', _, rfl, g1, fun q' hq' => ?_⟩ ⟨(Below.refl B w).grown g2 hBw hB, g5⟩
  rcases g4 with g4 | g4
  · rw [g4] at hq'; exact hB q' hq'
  · have := g4 q' hq'; omega
end
end Go.Proofs.Ytbkdbdhbmabgcaa.rgf
end

section
namespace Go.Proofs.Ytbkdbdhbmabgcaa.stw
open Go Go.RowKit sl harn bx
set_option linter.unusedVariables false

theorem app_empty {P : Program} (t ty E : TypeId) (i : TypeInfo) (z : Value) (k : IntKind) (h1 : P.underlying t = some (.slice E)) (h2 : P.info? E = some i) (h3 : i.zero = some z) (h4 : i.size = 1) (h5 : i.bytes ≤ 8) (h6 : z.cells.size = 1)
    {w : World} {lo hi lo2 hi2 m c q : Nat} {B : Option Addr} {ys : List Int} (ho : Ow E k w lo hi (some ⟨q, 0, none⟩) 0 0 []) (hr : Rd k w lo2 hi2 B m c ys) (hn : m ≤ 67108864) (hlo : lo ≤ w.heap.size) :
    ∃ A' cap' w', (Builtin.append_ #[t, t] ty #[.slice (some ⟨q, 0, none⟩) 0 0, .slice B m c]).run P w = .ok (.slice A' m cap') w' ∧ Ow E k w' lo w'.heap.size A' m cap' ys ∧ Below w.heap.size w w' := by
  obtain ⟨A', cap', w', hrun, g1, _, _⟩ := stp.app_spare (P := P) t ty E i z k h1 h2 h3 h4 h5 h6 ho hr (by omega) hlo (c1 := 0) (c2 := 0) (fun b h => by omega) (Nat.zero_le _)
  rw [Nat.zero_add] at hrun g1
  rw [List.nil_append] at g1
  refine ⟨A', cap', w', hrun, g1, ?_⟩
  have same : ∀ {v : Value} {u : World}, (Builtin.append_ #[t, t] ty #[.slice (some ⟨q, 0, none⟩) 0 0, .slice B m c]).run P w = .ok v u → w' = u := by
    intro v u hu
    rw [hrun] at hu
    injection hu
  rcases Nat.eq_zero_or_pos m with h0 | h0
  · subst h0
    have : (Builtin.append_ #[t, t] ty #[.slice (some ⟨q, 0, none⟩) 0 0, .slice B 0 c]).run P w = .ok (.slice (some ⟨q, 0, none⟩) 0 0) w := by
      cases B <;> simp [Builtin.append_, run_underlying h1, sizeOf, typeInfo, h2, Builtin.lenOf, Builtin.firstCells, storeCells, loadCells, loadCellsFrom]
    rw [same this]
    exact Below.refl _ _
  · obtain ⟨b, off, rfl, _, _, _⟩ := hr.at_ h0
    obtain ⟨hl, hs⟩ := hr.reads
    obtain ⟨ad, ea, _, hcell⟩ := hs h0
    obtain rfl := Option.some.inj ea
    have hfit : Builtin.nextslicecap (0 + m) 0 * i.bytes ≤ 281474976710656 := growslice_fits (by omega) (by
      have h9 : (0 + m) * i.bytes ≤ (0 + m) * 8 := Nat.mul_le_mul_left _ h5
      omega)
    have hr2 := run_append_grow (P := P) w t ty E i z h1 h2 h3 ⟨q, 0, none⟩ 0 0 [] (by simp) (fun j v h => by simp at h) ⟨b, off, none⟩ m c (ys.map (Value.int k)) (by rw [h4]; simpa using hl) hcell (by omega) (by omega) hfit
    rw [same hr2]
    exact ⟨rfl, rfl, rfl, by simp, fun k hk => heap_alloc_old w.drew _ hk⟩
/-- The append at an operation of a region. -/
theorem wp_app0 {P : Program} {o : Oper} {a : Act} {w : World} {K : Act → World → Prop} {Q : Exit → Act → World → Prop} (s x : Operand) (t : TypeId)
    (hop : o.op = .call { callee := .builtin .append, args := #[s, x], argTypes := #[t, t] })
    (E : TypeId) (i : TypeInfo) (z : Value) (k : IntKind) (h1 : P.underlying t = some (.slice E)) (h2 : P.info? E = some i) (h3 : i.zero = some z) (h4 : i.size = 1) (h5 : i.bytes ≤ 8) (h6 : z.cells.size = 1)
    {lo hi lo2 hi2 m c q : Nat} {B : Option Addr} {ys : List Int} (hs : a.eval s = .slice (some ⟨q, 0, none⟩) 0 0) (hx : a.eval x = .slice B m c) (ho : Ow E k w lo hi (some ⟨q, 0, none⟩) 0 0 []) (hr : Rd k w lo2 hi2 B m c ys) (hn : m ≤ 67108864) (hlo : lo ≤ w.heap.size)
    (hK : ∀ A' cap' w', Ow E k w' lo w'.heap.size A' m cap' ys → Below w.heap.size w w' → K (a.put o.dst (.slice A' m cap')) w') : Oper.wp P o a w K Q := by
  obtain ⟨A', cap', w', hrun, g1, g2⟩ := app_empty (P := P) t o.type E i z k h1 h2 h3 h4 h5 h6 ho hr hn hlo
  unfold Oper.wp execOp
  simp only [hop, resolve, invoke, builtin, Sem.run_bind, Sem.run_pure, Result.andThen_ok, List.map_toArray, List.map_cons, List.map_nil, hs, hx, hrun]
  exact hK A' cap' w' g1 g2
/-- A value with a row of the call's own in it, above block B. -/
def ownf (E : TypeId) (k : IntKind) (B : Nat) (zs : List Int) (f : Option Addr → Nat → Nat → Value) : reg.Stay reg.Bel :=
  ⟨fun v w => ∃ (A : Option Addr) (n c lo hi : Nat), v = f A n c ∧ B ≤ lo ∧ Ow E k w lo hi A n c zs, fun v w w' ⟨A, n, c, lo, hi, e, h1, h⟩ hb => ⟨A, n, c, lo, hi, e, h1, h.below hb⟩⟩
/-- An empty row of the call's own, without room. -/
def ownE (E : TypeId) (k : IntKind) (B : Nat) : reg.Stay reg.Bel :=
  ⟨fun v w => ∃ (q lo hi : Nat), v = .slice (some ⟨q, 0, none⟩) 0 0 ∧ B ≤ lo ∧ Ow E k w lo hi (some ⟨q, 0, none⟩) 0 0 [], fun v w w' ⟨q, lo, hi, e, h1, h⟩ hb => ⟨q, lo, hi, e, h1, h.below hb⟩⟩
end Go.Proofs.Ytbkdbdhbmabgcaa.stw
end

section
namespace Go.Proofs.Ytbkdbdhbmabgcaa.fr
open Go.RowKit sl harn bx mrw drk stw
set_option linter.unusedVariables false
set_option linter.unusedSimpArgs false
open ux (Rea Fra rea fra)

set_option maxRecDepth 100000 in
set_option maxHeartbeats 4000000 in
theorem implCr (x : Rea) (A : Option Addr) (n c lo hi : Nat) (w : World) (h : Rd .u8 w lo hi A n c x.Body) (hn : n ≤ 67108864) :
    Calls Try.prog 68 #[rV x A n c] w (XPost x w) := by
  have RW := Lib.hid h
  have hrh := h.hi_
  have HN := Lib.hid hn
  clear h hn
  go_enter Try.func68, Try.ntmps68
  go_upto_region 1 with fail
  obtain ⟨w0, hW⟩ : ∃ w0, (w.alloc (.cells #[.int .i64 x.From, .int .i64 x.Seq, .int .i64 x.Next, .slice A n c, .int .i64 x.Started] 38)).alloc (.cells #[.int .i64 0, .int .i64 0, .int .i64 0, .slice none 0 0, .int .i64 0] 38) = w0 := ⟨_, rfl⟩
  rw [hW]
  have B0 := Lib.hid (show Below w.heap.size w w0 by rw [← hW]; exact ((Below.refl _ _).alloc (by simp <;> omega) _).alloc (by simp <;> omega) _)
  have X0 := Lib.hid (show Bx 38 w0 (w.heap.size) #[.int .i64 x.From, .int .i64 x.Seq, .int .i64 x.Next, .slice A n c, .int .i64 x.Started] by
      rw [← hW]
      have hh := Bx.made 38 w #[.int .i64 x.From, .int .i64 x.Seq, .int .i64 x.Next, .slice A n c, .int .i64 x.Started]
      exact (hh.below (below_box _ _)))
  have Z0 := Lib.hid (show Bx 38 w0 (w.heap.size + 1) #[.int .i64 0, .int .i64 0, .int .i64 0, .slice none 0 0, .int .i64 0] by
      rw [← hW]
      have hh : Bx 38 ((w.alloc (.cells #[.int .i64 x.From, .int .i64 x.Seq, .int .i64 x.Next, .slice A n c, .int .i64 x.Started] 38)).alloc (.cells #[.int .i64 0, .int .i64 0, .int .i64 0, .slice none 0 0, .int .i64 0] 38)) (w.heap.size + 1) #[.int .i64 0, .int .i64 0, .int .i64 0, .slice none 0 0, .int .i64 0] := by have hh := Bx.made 38 (w.alloc (.cells #[.int .i64 x.From, .int .i64 x.Seq, .int .i64 x.Next, .slice A n c, .int .i64 x.Started] 38)) #[.int .i64 0, .int .i64 0, .int .i64 0, .slice none 0 0, .int .i64 0]; simpa using hh
      exact hh)
  have R0 := Lib.hid (show Rd .u8 w0 (lo) (hi) A n c x.Body by rw [← hW]; exact ((RW.out.below (below_box _ _)).below (below_box _ _)))
  clear hW
  have LTX := Lib.hid X0.out.lt
  have LTZ := Lib.hid Z0.out.lt
  have cX0 : w0.cell? ⟨w.heap.size, 0, none⟩ = some (.int .i64 x.From) := X0.out.cell 0
  have cX1 : w0.cell? ⟨w.heap.size, 1, none⟩ = some (.int .i64 x.Seq) := X0.out.cell 1
  have cX2 : w0.cell? ⟨w.heap.size, 2, none⟩ = some (.int .i64 x.Next) := X0.out.cell 2
  have cX3 : w0.cell? ⟨w.heap.size, 3, none⟩ = some (.slice A n c) := X0.out.cell 3
  have cX4 : w0.cell? ⟨w.heap.size, 4, none⟩ = some (.int .i64 x.Started) := X0.out.cell 4
  go_wp2_with fail
  clear cX0 cX1 cX2 cX3 cX4
  (with_reducible refine (mq.copyAll _ _ A n c x.Body _ R0.out (by have := HN.out; omega)).mono ?_)
  rintro e w1 ⟨A1, n1, c1, rfl, ho, hb⟩
  have SS1 := Lib.hid hb.size
  have B1 := Lib.hid (B0.out.trans (hb.mono B0.out.size))
  have X1 := Lib.hid (X0.out.below hb)
  have Z1 := Lib.hid (Z0.out.below hb)
  have R1 := Lib.hid (R0.out.below hb)
  clear hb  B0 X0 Z0 R0
  have P1 := Lib.hid ho
  clear ho
  have cX0 : w1.cell? ⟨w.heap.size, 0, none⟩ = some (.int .i64 x.From) := X1.out.cell 0
  have cX1 : w1.cell? ⟨w.heap.size, 1, none⟩ = some (.int .i64 x.Seq) := X1.out.cell 1
  have cX2 : w1.cell? ⟨w.heap.size, 2, none⟩ = some (.int .i64 x.Next) := X1.out.cell 2
  have cX3 : w1.cell? ⟨w.heap.size, 3, none⟩ = some (.slice A n c) := X1.out.cell 3
  have cX4 : w1.cell? ⟨w.heap.size, 4, none⟩ = some (.int .i64 x.Started) := X1.out.cell 4
  have fX3 : w1.frozen? ⟨w.heap.size, 3, none⟩ = false := X1.out.free 3
  go_upto_region 2 with fail
  clear cX0 cX1 cX2 cX3 cX4 fX3
  have hWW : (w1.setCell ⟨w.heap.size, 3, none⟩ (.slice A1 n1 c1)) = (w1.setCell ⟨w.heap.size, 3, none⟩ (.slice A1 n1 c1)) := rfl
  obtain ⟨w2, hW⟩ : ∃ wy, (w1.setCell ⟨w.heap.size, 3, none⟩ (.slice A1 n1 c1)) = wy := ⟨_, rfl⟩
  rw [hW]
  clear hWW
  have B2 := Lib.hid (show Below w.heap.size w w2 by rw [← hW]; exact (B1.out.setCell (p := ⟨w.heap.size, 3, none⟩) (by have hs0 := LTX.out; have hs1 := LTZ.out; have hs2 := SS1.out; first | omega | (simp <;> omega)) _))
  have X2 := Lib.hid (show Bx 38 w2 (w.heap.size) #[.int .i64 x.From, .int .i64 x.Seq, .int .i64 x.Next, .slice A1 n1 c1, .int .i64 x.Started] by rw [← hW]; exact (X1.out.set 3 _))
  have Z2 := Lib.hid (show Bx 38 w2 (w.heap.size + 1) #[.int .i64 0, .int .i64 0, .int .i64 0, .slice none 0 0, .int .i64 0] by rw [← hW]; exact (Z1.out.other (by have hs0 := LTX.out; have hs1 := LTZ.out; have hs2 := SS1.out; first | omega | (simp <;> omega)) _ _))
  have R2 := Lib.hid (show Rd .u8 w2 (lo) (hi) A n c x.Body by rw [← hW]; exact (R1.out.same (by simp [World.setCell]) fun b h1 h2 => by rw [Below.heap_setCell _ _ _ _ (by have hs0 := LTX.out; have hs1 := LTZ.out; have hs2 := SS1.out; first | omega | (simp <;> omega))]))
  have P2 := Lib.hid (show Ow 5 .u8 w2 (w0.heap.size) (w1.heap.size) A1 n1 c1 x.Body by rw [← hW]; exact (P1.out.same (by simp [World.setCell]) fun b h1 h2 => by rw [Below.heap_setCell _ _ _ _ (by have hs0 := LTX.out; have hs1 := LTZ.out; have hs2 := SS1.out; first | omega | (simp <;> omega))]))
  clear hW B1 X1 Z1 R1 P1
  have SQ2 := Lib.hid X2.out.lt
  go_wp2_with (first | (refine stw.list_load rfl 38 _ rfl (w.heap.size) rfl 38 _ X2.out Try.underlying38 rfl szRea ?_) | (refine stw.list_store rfl 38 _ _ rfl (w.heap.size + 1) #[.int .i64 x.From, .int .i64 x.Seq, .int .i64 x.Next, .slice A1 n1 c1, .int .i64 x.Started] rfl rfl 38 _ Z2.out rfl szRea (oneRea _ _ _ _ _ _ _) ?_; intro wz3 hz))
  have B3 := Lib.hid (hz.on B2.out (by have hs0 := LTX.out; have hs1 := LTZ.out; have hs2 := SS1.out; have hs3 := SQ2.out; first | omega | (simp <;> omega)))
  have X3 := Lib.hid (hz.keep X2.out (by have hs0 := LTX.out; have hs1 := LTZ.out; have hs2 := SS1.out; have hs3 := SQ2.out; first | omega | (simp <;> omega)))
  have Z3 := Lib.hid (hz.box)
  have R3 := Lib.hid (R2.out.same hz.below.size fun b h1 h2 => hz.other b (by have hs0 := LTX.out; have hs1 := LTZ.out; have hs2 := SS1.out; have hs3 := SQ2.out; first | omega | (simp <;> omega)))
  have P3 := Lib.hid (P2.out.same hz.below.size fun b h1 h2 => hz.other b (by have hs0 := LTX.out; have hs1 := LTZ.out; have hs2 := SS1.out; have hs3 := SQ2.out; first | omega | (simp <;> omega)))
  clear hz B2 X2 Z2 R2 P2
  (try simp only [Exit.inBlock, Exit.then])
  refine bodyPost_ret (v := .agg #[.int .i64 x.From, .int .i64 x.Seq, .int .i64 x.Next, .slice A1 n1 c1, .int .i64 x.Started]) ?_ rfl ?_
  · rw [results_cell1 rfl]
    exact stw.back Z3.out Try.underlying38 rfl szRea
  · exact ⟨_, _, _, rfl, (P3.out).up.down (by have hs0 := LTX.out; have hs1 := LTZ.out; have hs2 := SS1.out; have hs3 := SQ2.out; first | omega | (simp <;> omega)), B3.out⟩
set_option maxRecDepth 100000 in
set_option maxHeartbeats 4000000 in
theorem implSr (f : Fra) (now : Int) (A : Option Addr) (n c lo hi : Nat) (w : World) (h : Rd .u8 w lo hi A n c f.Body) (hn : n ≤ 67108864) :
    Calls Try.prog 22 #[fV f A n c, .int .i64 now] w (XPost (start f now) w) := by
  obtain ⟨j0, hj0, hy0, hy1, hy2⟩ := info_parts u8Info
  have HY8 := Lib.hid (And.intro hj0 (And.intro hy0 (And.intro hy1 hy2)))
  clear hj0 hy0 hy1 hy2
  have RW := Lib.hid h
  have hrh := h.hi_
  have LHR := Lib.hid hrh
  have HN := Lib.hid hn
  clear h hn
  go_enter Try.func22, Try.ntmps22
  go_upto_region 1 with fail
  obtain ⟨w0, hW⟩ : ∃ w0, (w.alloc (.cells #[.int .i64 f.Kind, .int .i64 f.From, .int .i64 f.To, .int .i64 f.Seq, .int .i64 f.Fragment, .bool f.More, .bool f.Retry, .int .i64 f.Duration, .slice A n c] 25)).alloc (.cells #[.int .i64 0, .int .i64 0, .int .i64 0, .slice none 0 0, .int .i64 0] 38) = w0 := ⟨_, rfl⟩
  rw [hW]
  have B0 := Lib.hid (show Below w.heap.size w w0 by rw [← hW]; exact ((Below.refl _ _).alloc (by simp <;> omega) _).alloc (by simp <;> omega) _)
  have X0 := Lib.hid (show Bx 25 w0 (w.heap.size) #[.int .i64 f.Kind, .int .i64 f.From, .int .i64 f.To, .int .i64 f.Seq, .int .i64 f.Fragment, .bool f.More, .bool f.Retry, .int .i64 f.Duration, .slice A n c] by
      rw [← hW]
      have hh := Bx.made 25 w #[.int .i64 f.Kind, .int .i64 f.From, .int .i64 f.To, .int .i64 f.Seq, .int .i64 f.Fragment, .bool f.More, .bool f.Retry, .int .i64 f.Duration, .slice A n c]
      exact (hh.below (below_box _ _)))
  have Z0 := Lib.hid (show Bx 38 w0 (w.heap.size + 1) #[.int .i64 0, .int .i64 0, .int .i64 0, .slice none 0 0, .int .i64 0] by
      rw [← hW]
      have hh : Bx 38 ((w.alloc (.cells #[.int .i64 f.Kind, .int .i64 f.From, .int .i64 f.To, .int .i64 f.Seq, .int .i64 f.Fragment, .bool f.More, .bool f.Retry, .int .i64 f.Duration, .slice A n c] 25)).alloc (.cells #[.int .i64 0, .int .i64 0, .int .i64 0, .slice none 0 0, .int .i64 0] 38)) (w.heap.size + 1) #[.int .i64 0, .int .i64 0, .int .i64 0, .slice none 0 0, .int .i64 0] := by have hh := Bx.made 38 (w.alloc (.cells #[.int .i64 f.Kind, .int .i64 f.From, .int .i64 f.To, .int .i64 f.Seq, .int .i64 f.Fragment, .bool f.More, .bool f.Retry, .int .i64 f.Duration, .slice A n c] 25)) #[.int .i64 0, .int .i64 0, .int .i64 0, .slice none 0 0, .int .i64 0]; simpa using hh
      exact hh)
  have R0 := Lib.hid (show Rd .u8 w0 (lo) (hi) A n c f.Body by rw [← hW]; exact ((RW.out.below (below_box _ _)).below (below_box _ _)))
  clear hW
  have LTX := Lib.hid X0.out.lt
  have LTZ := Lib.hid Z0.out.lt
  refine reg.region_tail reg.Bel 12 17 [some [], some [(0, 5)], some [], some [(2, 7)], some [], some [(4, 9)], some [], some [(6, 11)], some [(7, 12)], some [(5, 10), (8, 13)], some [], some [(1, 6), (3, 8), (9, 14), (10, 15)], none] [(0, 5), (1, 6), (2, 7), (3, 8), (4, 9), (5, 10), (6, 11), (7, 12), (8, 13), (9, 14), (10, 15), (11, 16)]
    (fun w' => Below w.heap.size w w' ∧ Bx 25 w' (w.heap.size) #[.int .i64 f.Kind, .int .i64 f.From, .int .i64 f.To, .int .i64 f.Seq, .int .i64 f.Fragment, .bool f.More, .bool f.Retry, .int .i64 f.Duration, .slice A n c] ∧ Bx 38 w' (w.heap.size + 1) #[.int .i64 0, .int .i64 0, .int .i64 0, .slice none 0 0, .int .i64 0] ∧ Rd .u8 w' (lo) (hi) A n c f.Body ∧ True)
    (reg.rl [reg.is (.pointer (some ⟨w.heap.size, 1, none⟩)), reg.is (.int .i64 f.From), reg.is (.pointer (some ⟨w.heap.size, 3, none⟩)), reg.is (.int .i64 f.Seq), reg.is (.pointer (some ⟨w.heap.size, 8, none⟩)), reg.is (.slice A n c), reg.is (.pointer (some ⟨w.heap.size, 8, none⟩)), reg.is (.slice A n c), reg.is (.int .i64 ((n : Int))), stw.ownf 5 .u8 (w.heap.size + 1 + 1) f.Body (fun A n c => .slice A n c), reg.is (.int .i64 now), stw.ownf 5 .u8 (w.heap.size + 1 + 1) f.Body (fun A n c => .agg #[.int .i64 f.From, .int .i64 f.Seq, .int .i64 1, .slice A n c, .int .i64 now]), reg.free])
    (by kernel_rfl) rfl (by kernel_rfl) (by kernel_rfl) rfl
    (fun w1 w2 hc hb => ⟨hc.1.trans (hb.mono hc.1.size), hc.2.1.below hb, hc.2.2.1.below hb, hc.2.2.2.1.below hb, trivial⟩) (reg.rl_keep _) (⟨own.below_drew B0.out, X0.out.same rfl, Z0.out.same rfl, own.rd_drew R0.out, trivial⟩) (by kernel_rfl) ⟨?_, ?_, ?_, ?_, ?_, ?_, ?_, ?_, ?_, ?_, ?_, ?_, trivial⟩ ?_
  · refine fun w8 hc  K hK => ?_
    (try simp only [Act.put, List.setIfInBounds_toArray, List.set_cons_zero, List.set_cons_succ])
    go_simp
    exact hK (.pointer (some ⟨w.heap.size, 1, none⟩)) _ rfl (Below.refl _ _)
  · refine fun w8 hc v0 h0 K hK => ?_
    obtain rfl : v0 = .pointer (some ⟨w.heap.size, 1, none⟩) := h0
    (try simp only [Act.put, List.setIfInBounds_toArray, List.set_cons_zero, List.set_cons_succ])
    have c0 : w8.cell? ⟨w.heap.size, 1, none⟩ = some (.int .i64 f.From) := hc.2.1.cell 1
    go_simp
    exact hK (.int .i64 f.From) _ rfl (Below.refl _ _)
  · refine fun w8 hc  K hK => ?_
    (try simp only [Act.put, List.setIfInBounds_toArray, List.set_cons_zero, List.set_cons_succ])
    go_simp
    exact hK (.pointer (some ⟨w.heap.size, 3, none⟩)) _ rfl (Below.refl _ _)
  · refine fun w8 hc v2 h2 K hK => ?_
    obtain rfl : v2 = .pointer (some ⟨w.heap.size, 3, none⟩) := h2
    (try simp only [Act.put, List.setIfInBounds_toArray, List.set_cons_zero, List.set_cons_succ])
    have c0 : w8.cell? ⟨w.heap.size, 3, none⟩ = some (.int .i64 f.Seq) := hc.2.1.cell 3
    go_simp
    exact hK (.int .i64 f.Seq) _ rfl (Below.refl _ _)
  · refine fun w8 hc  K hK => ?_
    (try simp only [Act.put, List.setIfInBounds_toArray, List.set_cons_zero, List.set_cons_succ])
    go_simp
    exact hK (.pointer (some ⟨w.heap.size, 8, none⟩)) _ rfl (Below.refl _ _)
  · refine fun w8 hc v4 h4 K hK => ?_
    obtain rfl : v4 = .pointer (some ⟨w.heap.size, 8, none⟩) := h4
    (try simp only [Act.put, List.setIfInBounds_toArray, List.set_cons_zero, List.set_cons_succ])
    have c0 : w8.cell? ⟨w.heap.size, 8, none⟩ = some (.slice A n c) := hc.2.1.cell 8
    go_simp
    exact hK (.slice A n c) _ rfl (Below.refl _ _)
  · refine fun w8 hc  K hK => ?_
    (try simp only [Act.put, List.setIfInBounds_toArray, List.set_cons_zero, List.set_cons_succ])
    go_simp
    exact hK (.pointer (some ⟨w.heap.size, 8, none⟩)) _ rfl (Below.refl _ _)
  · refine fun w8 hc v6 h6 K hK => ?_
    obtain rfl : v6 = .pointer (some ⟨w.heap.size, 8, none⟩) := h6
    (try simp only [Act.put, List.setIfInBounds_toArray, List.set_cons_zero, List.set_cons_succ])
    have c0 : w8.cell? ⟨w.heap.size, 8, none⟩ = some (.slice A n c) := hc.2.1.cell 8
    go_simp
    exact hK (.slice A n c) _ rfl (Below.refl _ _)
  · refine fun w8 hc v7 h7 K hK => ?_
    obtain rfl : v7 = .slice A n c := h7
    (try simp only [Act.put, List.setIfInBounds_toArray, List.set_cons_zero, List.set_cons_succ])
    go_simp
    exact hK (.int .i64 ((n : Int))) _ rfl (Below.refl _ _)
  · refine fun w8 hc v5 h5 v8 h8 K hK => ?_
    obtain rfl : v5 = .slice A n c := h5
    obtain rfl : v8 = .int .i64 ((n : Int)) := h8
    (try simp only [Act.put, List.setIfInBounds_toArray, List.set_cons_zero, List.set_cons_succ])
    go_simp
    have hql := hc.2.2.1.lt
    (with_reducible refine (mq.copyAll _ _ A n c f.Body _ hc.2.2.2.1 (by have := HN.out; omega)).mono ?_)
    rintro e w3 ⟨A1, n1, c1, rfl, ho, hb⟩
    exact hK _ _ ⟨A1, n1, c1, _, _, rfl, (by omega), ho⟩ hb
  · refine fun w8 hc  K hK => ?_
    (try simp only [Act.put, List.setIfInBounds_toArray, List.set_cons_zero, List.set_cons_succ])
    go_simp
    exact hK (.int .i64 now) _ rfl (Below.refl _ _)
  · refine fun w8 hc v1 h1 v3 h3 v9 h9 v10 h10 K hK => ?_
    obtain rfl : v1 = .int .i64 f.From := h1
    obtain rfl : v3 = .int .i64 f.Seq := h3
    obtain ⟨A1, n1, c1, lo1, hi1, rfl, hB1, hO1⟩ := h9
    obtain rfl : v10 = .int .i64 now := h10
    (try simp only [Act.put, List.setIfInBounds_toArray, List.set_cons_zero, List.set_cons_succ])
    go_simp
    exact hK _ _ ⟨A1, n1, c1, _, _, rfl, hB1, hO1⟩ (Below.refl _ _)
  refine fun wg1 hc v0 h0 v1 h1 v2 h2 v3 h3 v4 h4 v5 h5 v6 h6 v7 h7 v8 h8 v9 h9 v10 h10 v11 h11 => ?_
  obtain rfl : v0 = .pointer (some ⟨w.heap.size, 1, none⟩) := h0
  obtain rfl : v1 = .int .i64 f.From := h1
  obtain rfl : v2 = .pointer (some ⟨w.heap.size, 3, none⟩) := h2
  obtain rfl : v3 = .int .i64 f.Seq := h3
  obtain rfl : v4 = .pointer (some ⟨w.heap.size, 8, none⟩) := h4
  obtain rfl : v5 = .slice A n c := h5
  obtain rfl : v6 = .pointer (some ⟨w.heap.size, 8, none⟩) := h6
  obtain rfl : v7 = .slice A n c := h7
  obtain rfl : v8 = .int .i64 ((n : Int)) := h8
  obtain ⟨A1, n1, c1, lo1, hi1, rfl, hB1, hO1⟩ := h9
  obtain rfl : v10 = .int .i64 now := h10
  obtain ⟨A2, n2, c2, lo2, hi2, rfl, hB2, hO2⟩ := h11
  (try simp only [reg.Obs])
  (try simp only [Act.put, List.setIfInBounds_toArray, List.set_cons_zero, List.set_cons_succ])
  simp only [List.drop_succ_cons, List.drop_zero]
  have B1 := Lib.hid hc.1
  have X1 := Lib.hid hc.2.1
  have Z1 := Lib.hid hc.2.2.1
  have R1 := Lib.hid hc.2.2.2.1
  clear hc B0 X0 Z0 R0
  have P1 := Lib.hid hO2
  have HB2 := Lib.hid hB2
  have HH2 := Lib.hid hO2.hi_
  (try clear hO1 hB1)
  clear hO2 hB2
  refine stw.list_store rfl 38 _ _ rfl (w.heap.size + 1) #[.int .i64 f.From, .int .i64 f.Seq, .int .i64 1, .slice A2 n2 c2, .int .i64 now] rfl rfl 38 _ Z1.out rfl szRea (oneRea _ _ _ _ _ _ _) ?_
  intro wz2 hz
  (try simp only [Act.put])
  have B2 := Lib.hid (hz.on B1.out (by have hs0 := LTX.out; have hs1 := LTZ.out; have hs2 := LHR.out; have hs3 := HB2.out; have hs4 := HH2.out; first | omega | (simp <;> omega)))
  have X2 := Lib.hid (hz.keep X1.out (by have hs0 := LTX.out; have hs1 := LTZ.out; have hs2 := LHR.out; have hs3 := HB2.out; have hs4 := HH2.out; first | omega | (simp <;> omega)))
  have Z2 := Lib.hid (hz.box)
  have R2 := Lib.hid (R1.out.same hz.below.size fun b h1 h2 => hz.other b (by have hs0 := LTX.out; have hs1 := LTZ.out; have hs2 := LHR.out; have hs3 := HB2.out; have hs4 := HH2.out; first | omega | (simp <;> omega)))
  have P2 := Lib.hid (P1.out.same hz.below.size fun b h1 h2 => hz.other b (by have hs0 := LTX.out; have hs1 := LTZ.out; have hs2 := LHR.out; have hs3 := HB2.out; have hs4 := HH2.out; first | omega | (simp <;> omega)))
  clear hz B1 X1 Z1 R1 P1
  go_wp2_with fail
  (try simp only [Exit.inBlock, Exit.then])
  refine bodyPost_ret (v := .agg #[.int .i64 f.From, .int .i64 f.Seq, .int .i64 1, .slice A2 n2 c2, .int .i64 now]) ?_ rfl ?_
  · rw [results_cell1 rfl]
    exact stw.back Z2.out Try.underlying38 rfl szRea
  · exact ⟨_, _, _, rfl, (P2.out).up.down (by have := HB2.out; omega), B2.out⟩
end Go.Proofs.Ytbkdbdhbmabgcaa.fr
end

section
namespace Go.Proofs.Ytbkdbdhbmabgcaa.fr
open Go.RowKit sl harn bx mrw drk stw
set_option linter.unusedVariables false
set_option linter.unusedSimpArgs false
open ux (Rea Fra rea fra)

theorem live_take {now : Int} {l : List Rea} {k : Nat} {y : Rea} (h : l[k]? = some y) : (l.take (k + 1)).filter (live now) = (l.take k).filter (live now) ++ (if live now y = true then [y] else []) := by
  rw [take_snoc h, List.filter_append]
  by_cases hl : live now y = true
  · rw [if_pos hl]; simp [hl]
  · rw [if_neg hl]; simp [hl]
set_option maxRecDepth 100000 in
set_option maxHeartbeats 4000000 in
theorem implCs (ms : List Rea) (A : Option Addr) (n cap lo hi : Nat) (hn : n ≤ 67108864) (hbd : ∀ y ∈ ms, y.Body.length ≤ 67108864) (w : World) (h : Rq reaS w lo hi A n cap ms) :
    Calls Try.prog 60 #[.slice A n cap] w (CPost ms w) := by
  obtain ⟨i0, hi0, hz0, hz1, hz2⟩ := info_parts infoR
  have HZ := Lib.hid (And.intro hi0 (And.intro hz0 (And.intro hz1 hz2)))
  clear hi0 hz0 hz1 hz2
  obtain ⟨j0, hj0, hy0, hy1, hy2⟩ := info_parts u8Info
  have HY8 := Lib.hid (And.intro hj0 (And.intro hy0 (And.intro hy1 hy2)))
  clear hj0 hy0 hy1 hy2
  have QW := Lib.hid h
  have hqh := h.hi_
  have hqc := h.cap_
  have HBD := Lib.hid hbd
  have HN := Lib.hid hn
  have HLN0 := Lib.hid h.len
  clear h hbd
  have LHQ := Lib.hid hqh
  go_enter Try.func60, Try.ntmps60
  go_wp2_with fail
  obtain ⟨w0, hW⟩ : ∃ w0, w.alloc (.cells #[] 38) = w0 := ⟨_, rfl⟩
  rw [hW]
  have B0 := Lib.hid (show Below w.heap.size w w0 by rw [← hW]; exact (Below.refl _ _).alloc (by simp <;> omega) _)
  have E0 := Lib.hid (show Bx 38 w0 (w.heap.size) #[] by
      rw [← hW]
      have hh := Bx.made 38 w #[]
      exact hh)
  have Q0 := Lib.hid (show Rq reaS w0 lo hi A n cap ms by rw [← hW]; exact (QW.out.below (below_box _ _)))
  clear hW
  have LTE := Lib.hid E0.out.lt
  have O0 := Lib.hid (show Oe reaS w0 (w.heap.size) w0.heap.size (some ⟨w.heap.size, 0, none⟩) 0 0 [] from oe_box (S := reaS) E0.out)
  clear E0
  go_loopw [3, 9] (fun v0 v1 wr => ∃ (k : Nat) (A1 : Option Addr) (c1 : Nat) (es : List (El Rea)), v0 = .slice A1 k c1 ∧ v1 = .int .i64 ((k : Int)) ∧ (k ≤ n) ∧ (es.map (fun e : El Rea => e.x) = ms.take k) ∧ (∃ g, A1 = some ⟨g, 0, none⟩) ∧ Below w.heap.size w wr ∧ Rq reaS wr lo hi A n cap ms ∧ Oe reaS wr w.heap.size wr.heap.size A1 k c1 es) (fun _ i _ => n - (intOf i).toNat)
  case atStart => exact ⟨0, (some ⟨w.heap.size, 0, none⟩), 0, [], rfl, rfl, by omega, by simp, ⟨_, rfl⟩, B0.out, Q0.out, O0.out⟩
  case round =>
    obtain ⟨k, A1, c1, es, rfl, rfl, ghk, ghe, gha, gB1, gQ1, gO1⟩ := hrel
    have B1 := Lib.hid gB1
    have Q1 := Lib.hid gQ1
    have O1 := Lib.hid gO1
    have hk := Lib.hid ghk
    have he := Lib.hid ghe
    have ha := Lib.hid gha
    clear gB1 gQ1 gO1 ghk ghe gha
    have SBR1 := Lib.hid B1.out.size
    have hk := hk.out
    by_cases hlt : k < n
    · obtain ⟨b, off, y, hA, hy, h1, h2, A', n', c', hd, ce0, ce1, ce2, ce3, ce4⟩ := at_ Q1.out hlt
      have HY := Lib.hid hy
      have D1 := Lib.hid hd
      clear hy hd
      subst hA
      have hlt2 : (k : Int) < n := by omega
      have HT := Lib.hid (take_snoc HY.out)
      have HLN := Lib.hid (show n' ≤ 67108864 from (show y.Body.length = n' from D1.out.len) ▸ HBD.out y (List.mem_of_getElem? HY.out))
      go_wp2_with fail
      clear ce0 ce1 ce2 ce3 ce4
      obtain ⟨bv, hbb⟩ : ∃ b, wr.heap.size = b := ⟨_, rfl⟩
      generalize hW : wr.alloc (.cells #[.int .i64 y.From, .int .i64 y.Seq, .int .i64 y.Next, .slice A' n' c', .int .i64 y.Started] 38) = w2
      have LV := Lib.hid (show w.heap.size ≤ bv ∧ hi ≤ bv ∧ wr.heap.size ≤ bv ∧ hi ≤ bv by have h1 := B1.out.size; have h2Q := Q1.out.hi_; have h2O := O1.out.hi_; have h2D := D1.out.hi_; have h3 := hbb; omega)
      have V2 := Lib.hid (show Bx 38 w2 bv #[.int .i64 y.From, .int .i64 y.Seq, .int .i64 y.Next, .slice A' n' c', .int .i64 y.Started] by rw [← hW, ← hbb]; exact Bx.made _ _ _)
      have hb : Below wr.heap.size wr w2 := by rw [← hW]; exact below_box _ _
      (try rw [hbb])
      clear hW hbb
      have SS2 := Lib.hid hb.size
      have B2 := Lib.hid (B1.out.trans (hb.mono B1.out.size))
      have Q2 := Lib.hid (Q1.out.below hb)
      have O2 := Lib.hid (O1.out.below hb)
      have D2 := Lib.hid (D1.out.below hb)
      clear hb B1 Q1 O1 D1
      have LWV := Lib.hid V2.out.lt
      (with_reducible refine (implCr y A' n' c' _ _ _ D2.out HLN.out).mono ?_)
      rintro e w3 hp
      obtain ⟨A2, n2, c2, rfl, ho2, hb⟩ := x_parts hp
      clear hp
      have SS3 := Lib.hid hb.size
      have B3 := Lib.hid (B2.out.trans (hb.mono B2.out.size))
      have V3 := Lib.hid (V2.out.below hb)
      have Q3 := Lib.hid (Q2.out.below hb)
      have O3 := Lib.hid (O2.out.below hb)
      have D3 := Lib.hid (D2.out.below hb)
      clear hb B2 V2 Q2 O2 D2
      have H3 := Lib.hid ho2
      clear ho2
      go_wp2_with (at_builtin; refine list_push w3 rfl _ _ 31 rfl Try.underlying31 HZ.out.1 HZ.out.2.1 HZ.out.2.2.1 (by rw [HZ.out.2.2.2]; omega) rfl rfl rfl O3.out ⟨y, A2, n2, c2⟩ H3.out (by have hlV := LV.out; have hs0 := LTE.out; have hs1 := LHQ.out; have hs2 := SBR1.out; have hs3 := SS2.out; have hs4 := LWV.out; have hs5 := SS3.out; first | omega | (simp <;> omega)) (by have hlV := LV.out; have hs0 := LTE.out; have hs1 := LHQ.out; have hs2 := SBR1.out; have hs3 := SS2.out; have hs4 := LWV.out; have hs5 := SS3.out; first | omega | (simp <;> omega)) (by omega) (by have hlV := LV.out; have hs0 := LTE.out; have hs1 := LHQ.out; have hs2 := SBR1.out; have hs3 := SS2.out; have hs4 := LWV.out; have hs5 := SS3.out; first | omega | (simp <;> omega)) ?_; intro A3 c3 w4 ho hg; have B4 := Lib.hid (below_grown B3.out hg (fun q hq => by have hlV := LV.out; have hs0 := LTE.out; have hs1 := LHQ.out; have hs2 := SBR1.out; have hs3 := SS2.out; have hs4 := LWV.out; have hs5 := SS3.out; have := (O3.out.lo_ hq).1; omega) B3.out.size); have V4 := Lib.hid (grown_bx V3.out hg (fun e => by have hlV := LV.out; have hs0 := LTE.out; have hs1 := LHQ.out; have hs2 := SBR1.out; have hs3 := SS2.out; have hs4 := LWV.out; have hs5 := SS3.out; have := O3.out.lo_ e.symm; omega)); have Q4 := Lib.hid (rq_grown Q3.out O3.out hg (by have hlV := LV.out; have hs0 := LTE.out; have hs1 := LHQ.out; have hs2 := SBR1.out; have hs3 := SS2.out; have hs4 := LWV.out; have hs5 := SS3.out; first | omega | (simp <;> omega))); have H4 := Lib.hid (ow_grown O3.out hg H3.out); have SS4 := Lib.hid hg.size; clear B3 V3 Q3 O3 H3; have O4 := Lib.hid ho; clear ho hg)
      go_roundw
      case rel => exact ⟨k + 1, A3, c3, _, rfl, by go_num, by omega, by rw [List.map_append, he.out, HT.out]; rfl, oe_some O4.out (by omega), B4.out, Q4.out, O4.out.up⟩
      case measure => simp [intOf]; omega
    · have hlt2 : ¬ (k : Int) < n := by omega
      obtain rfl : n = k := by omega
      have HF := Lib.hid (show es.map (fun e : El Rea => e.x) = ms by rw [he.out]; exact List.take_of_length_le (by rw [HLN0.out]; exact Nat.le_refl _))
      obtain ⟨g, hga⟩ := ha.out
      subst hga
      go_wp2_with fail
      go_ret
      exact ⟨_, _, _, es, rfl, HF.out, O1.out.up, B1.out⟩
set_option maxRecDepth 100000 in
set_option maxHeartbeats 4000000 in
theorem implXr (now : Int) (ms : List Rea) (A : Option Addr) (n cap lo hi : Nat) (hn : n ≤ 67108864) (hbd : ∀ y ∈ ms, y.Body.length ≤ 67108864) (w : World) (h : Rq reaS w lo hi A n cap ms) :
    Calls Try.prog 21 #[.slice A n cap, .int .i64 now] w (SPost (ms.filter (live now)) w) := by
  obtain ⟨i0, hi0, hz0, hz1, hz2⟩ := info_parts infoR
  have HZ := Lib.hid (And.intro hi0 (And.intro hz0 (And.intro hz1 hz2)))
  clear hi0 hz0 hz1 hz2
  have QW := Lib.hid h
  have hqh := h.hi_
  have hqc := h.cap_
  have HBD := Lib.hid hbd
  have HN := Lib.hid hn
  have HLN0 := Lib.hid h.len
  clear h hbd
  have LHQ := Lib.hid hqh
  go_enter Try.func21, Try.ntmps21
  go_wp2_with fail
  obtain ⟨w0, hW⟩ : ∃ w0, w.alloc (.cells #[] 38) = w0 := ⟨_, rfl⟩
  rw [hW]
  have B0 := Lib.hid (show Below w.heap.size w w0 by rw [← hW]; exact (Below.refl _ _).alloc (by simp <;> omega) _)
  have E0 := Lib.hid (show Bx 38 w0 (w.heap.size) #[] by
      rw [← hW]
      have hh := Bx.made 38 w #[]
      exact hh)
  have Q0 := Lib.hid (show Rq reaS w0 lo hi A n cap ms by rw [← hW]; exact (QW.out.below (below_box _ _)))
  clear hW
  have LTE := Lib.hid E0.out.lt
  have O0 := Lib.hid (show Oe reaS w0 (w.heap.size) w0.heap.size (some ⟨w.heap.size, 0, none⟩) 0 0 [] from oe_box (S := reaS) E0.out)
  clear E0
  go_loopw [5, 11] (fun v0 v1 wr => ∃ (k : Nat) (m : Nat) (A1 : Option Addr) (c1 : Nat) (es : List (El Rea)), v0 = .slice A1 m c1 ∧ v1 = .int .i64 ((k : Int)) ∧ (k ≤ n ∧ m ≤ k) ∧ (es.map (fun e : El Rea => e.x) = (ms.take k).filter (live now)) ∧ Below w.heap.size w wr ∧ Rq reaS wr lo hi A n cap ms ∧ Oe reaS wr w.heap.size wr.heap.size A1 m c1 es) (fun _ i _ => n - (intOf i).toNat)
  case atStart => exact ⟨0, 0, (some ⟨w.heap.size, 0, none⟩), 0, [], rfl, rfl, by omega, by simp, B0.out, Q0.out, O0.out⟩
  case round =>
    obtain ⟨k, m, A1, c1, es, rfl, rfl, ghk, ghe, gB1, gQ1, gO1⟩ := hrel
    have B1 := Lib.hid gB1
    have Q1 := Lib.hid gQ1
    have O1 := Lib.hid gO1
    have hk := Lib.hid ghk
    have he := Lib.hid ghe
    clear gB1 gQ1 gO1 ghk ghe
    have SBR1 := Lib.hid B1.out.size
    have hmk := hk.out.2
    have hk := hk.out.1
    by_cases hlt : k < n
    · obtain ⟨b, off, y, hA, hy, h1, h2, A', n', c', hd, ce0, ce1, ce2, ce3, ce4⟩ := at_ Q1.out hlt
      have HY := Lib.hid hy
      have D1 := Lib.hid hd
      clear hy hd
      subst hA
      have hlt2 : (k : Int) < n := by omega
      have HT := Lib.hid (live_take (now := now) HY.out)
      obtain ⟨sv, hsv⟩ : ∃ s, IntKind.i64.wrap (y.Started + 50) = s := ⟨_, rfl⟩
      have HLN := Lib.hid (show n' ≤ 67108864 from (show y.Body.length = n' from D1.out.len) ▸ HBD.out y (List.mem_of_getElem? HY.out))
      by_cases hexp : now ≤ sv
      · have hd1 : decide (now ≤ sv) = true := decide_eq_true hexp
        have HK := Lib.hid (show (ms.take (k + 1)).filter (live now) = (ms.take k).filter (live now) ++ [y] by rw [HT.out, if_pos (by unfold live; rw [hsv]; exact hd1)])
        go_upto_region 5 with fail
        obtain ⟨bv, hbb⟩ : ∃ b, wr.heap.size = b := ⟨_, rfl⟩
        generalize hW : wr.alloc (.cells #[.int .i64 y.From, .int .i64 y.Seq, .int .i64 y.Next, .slice A' n' c', .int .i64 y.Started] 38) = w2
        have LV := Lib.hid (show w.heap.size ≤ bv ∧ hi ≤ bv ∧ wr.heap.size ≤ bv ∧ hi ≤ bv by have h1 := B1.out.size; have h2Q := Q1.out.hi_; have h2O := O1.out.hi_; have h2D := D1.out.hi_; have h3 := hbb; omega)
        have V2 := Lib.hid (show Bx 38 w2 bv #[.int .i64 y.From, .int .i64 y.Seq, .int .i64 y.Next, .slice A' n' c', .int .i64 y.Started] by rw [← hW, ← hbb]; exact Bx.made _ _ _)
        have hb : Below wr.heap.size wr w2 := by rw [← hW]; exact below_box _ _
        (try rw [hbb])
        clear hW hbb
        have SS2 := Lib.hid hb.size
        have B2 := Lib.hid (B1.out.trans (hb.mono B1.out.size))
        have Q2 := Lib.hid (Q1.out.below hb)
        have O2 := Lib.hid (O1.out.below hb)
        have D2 := Lib.hid (D1.out.below hb)
        clear hb B1 Q1 O1 D1
        have LWV := Lib.hid V2.out.lt
        clear ce0 ce1 ce2 ce3 ce4
        have cV0 : w2.cell? ⟨bv, 0, none⟩ = some (.int .i64 y.From) := V2.out.cell 0
        have cV1 : w2.cell? ⟨bv, 1, none⟩ = some (.int .i64 y.Seq) := V2.out.cell 1
        have cV2 : w2.cell? ⟨bv, 2, none⟩ = some (.int .i64 y.Next) := V2.out.cell 2
        have cV3 : w2.cell? ⟨bv, 3, none⟩ = some (.slice A' n' c') := V2.out.cell 3
        have cV4 : w2.cell? ⟨bv, 4, none⟩ = some (.int .i64 y.Started) := V2.out.cell 4
        go_wp2_with fail
        clear cV0 cV1 cV2 cV3 cV4
        (with_reducible refine (implCr y A' n' c' _ _ _ D2.out HLN.out).mono ?_)
        rintro e w3 hp
        obtain ⟨A2, n2, c2, rfl, ho2, hb⟩ := x_parts hp
        clear hp
        have SS3 := Lib.hid hb.size
        have B3 := Lib.hid (B2.out.trans (hb.mono B2.out.size))
        have V3 := Lib.hid (V2.out.below hb)
        have Q3 := Lib.hid (Q2.out.below hb)
        have O3 := Lib.hid (O2.out.below hb)
        have D3 := Lib.hid (D2.out.below hb)
        clear hb B2 V2 Q2 O2 D2
        have H3 := Lib.hid ho2
        clear ho2
        go_wp2_with (at_builtin; refine list_push w3 rfl _ _ 31 rfl Try.underlying31 HZ.out.1 HZ.out.2.1 HZ.out.2.2.1 (by rw [HZ.out.2.2.2]; omega) rfl rfl rfl O3.out ⟨y, A2, n2, c2⟩ H3.out (by have hlV := LV.out; have hs0 := LTE.out; have hs1 := LHQ.out; have hs2 := SBR1.out; have hs3 := SS2.out; have hs4 := LWV.out; have hs5 := SS3.out; first | omega | (simp <;> omega)) (by have hlV := LV.out; have hs0 := LTE.out; have hs1 := LHQ.out; have hs2 := SBR1.out; have hs3 := SS2.out; have hs4 := LWV.out; have hs5 := SS3.out; first | omega | (simp <;> omega)) (by omega) (by have hlV := LV.out; have hs0 := LTE.out; have hs1 := LHQ.out; have hs2 := SBR1.out; have hs3 := SS2.out; have hs4 := LWV.out; have hs5 := SS3.out; first | omega | (simp <;> omega)) ?_; intro A3 c3 w4 ho hg; have B4 := Lib.hid (below_grown B3.out hg (fun q hq => by have hlV := LV.out; have hs0 := LTE.out; have hs1 := LHQ.out; have hs2 := SBR1.out; have hs3 := SS2.out; have hs4 := LWV.out; have hs5 := SS3.out; have := (O3.out.lo_ hq).1; omega) B3.out.size); have V4 := Lib.hid (grown_bx V3.out hg (fun e => by have hlV := LV.out; have hs0 := LTE.out; have hs1 := LHQ.out; have hs2 := SBR1.out; have hs3 := SS2.out; have hs4 := LWV.out; have hs5 := SS3.out; have := O3.out.lo_ e.symm; omega)); have Q4 := Lib.hid (rq_grown Q3.out O3.out hg (by have hlV := LV.out; have hs0 := LTE.out; have hs1 := LHQ.out; have hs2 := SBR1.out; have hs3 := SS2.out; have hs4 := LWV.out; have hs5 := SS3.out; first | omega | (simp <;> omega))); have H4 := Lib.hid (ow_grown O3.out hg H3.out); have SS4 := Lib.hid hg.size; clear B3 V3 Q3 O3 H3; have O4 := Lib.hid ho; clear ho hg)
        go_roundw
        case rel => exact ⟨k + 1, m + 1, A3, c3, _, rfl, by go_num, ⟨by omega, by omega⟩, by rw [List.map_append, he.out, HK.out]; rfl, B4.out, Q4.out, O4.out.up⟩
        case measure => simp [intOf]; omega
      · have hd1 : decide (now ≤ sv) = false := decide_eq_false hexp
        have HK := Lib.hid (show (ms.take (k + 1)).filter (live now) = (ms.take k).filter (live now) by rw [HT.out, if_neg (by unfold live; rw [hsv, hd1]; simp), List.append_nil])
        go_upto_region 5 with fail
        obtain ⟨bv, hbb⟩ : ∃ b, wr.heap.size = b := ⟨_, rfl⟩
        generalize hW : wr.alloc (.cells #[.int .i64 y.From, .int .i64 y.Seq, .int .i64 y.Next, .slice A' n' c', .int .i64 y.Started] 38) = w2
        have LV := Lib.hid (show w.heap.size ≤ bv ∧ hi ≤ bv ∧ wr.heap.size ≤ bv ∧ hi ≤ bv by have h1 := B1.out.size; have h2Q := Q1.out.hi_; have h2O := O1.out.hi_; have h2D := D1.out.hi_; have h3 := hbb; omega)
        have V2 := Lib.hid (show Bx 38 w2 bv #[.int .i64 y.From, .int .i64 y.Seq, .int .i64 y.Next, .slice A' n' c', .int .i64 y.Started] by rw [← hW, ← hbb]; exact Bx.made _ _ _)
        have hb : Below wr.heap.size wr w2 := by rw [← hW]; exact below_box _ _
        (try rw [hbb])
        clear hW hbb
        have SS2 := Lib.hid hb.size
        have B2 := Lib.hid (B1.out.trans (hb.mono B1.out.size))
        have Q2 := Lib.hid (Q1.out.below hb)
        have O2 := Lib.hid (O1.out.below hb)
        have D2 := Lib.hid (D1.out.below hb)
        clear hb B1 Q1 O1 D1
        have LWV := Lib.hid V2.out.lt
        clear ce0 ce1 ce2 ce3 ce4
        have cV0 : w2.cell? ⟨bv, 0, none⟩ = some (.int .i64 y.From) := V2.out.cell 0
        have cV1 : w2.cell? ⟨bv, 1, none⟩ = some (.int .i64 y.Seq) := V2.out.cell 1
        have cV2 : w2.cell? ⟨bv, 2, none⟩ = some (.int .i64 y.Next) := V2.out.cell 2
        have cV3 : w2.cell? ⟨bv, 3, none⟩ = some (.slice A' n' c') := V2.out.cell 3
        have cV4 : w2.cell? ⟨bv, 4, none⟩ = some (.int .i64 y.Started) := V2.out.cell 4
        go_wp2_with fail
        clear cV0 cV1 cV2 cV3 cV4
        go_roundw
        case rel => exact ⟨k + 1, m, A1, c1, es, rfl, by go_num, ⟨by omega, by omega⟩, by rw [he.out, HK.out], B2.out, Q2.out, O2.out.up⟩
        case measure => simp [intOf]; omega
    · have hlt2 : ¬ (k : Int) < n := by omega
      obtain rfl : n = k := by omega
      have HF := Lib.hid (show es.map (fun e : El Rea => e.x) = ms.filter (live now) by rw [he.out, List.take_of_length_le (by rw [HLN0.out]; exact Nat.le_refl _)])
      go_wp2_with fail
      go_ret
      exact ⟨_, _, _, es, rfl, HF.out, O1.out.up, B1.out⟩
end Go.Proofs.Ytbkdbdhbmabgcaa.fr
end
