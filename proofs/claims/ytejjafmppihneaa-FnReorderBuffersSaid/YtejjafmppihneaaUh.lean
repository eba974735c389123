/- A row of the call's own with one element taken out: its cells written one by one, its slices changed beside it, and put back. Condition: none. -/
import Derived.Test.YtejjafmppihneaaUx
import Derived.Test.YtejjafmppihneaaMrs
namespace Go.Proofs.Ytejjafmppihneaa.ux
open Go.RowKit sl harn bx
set_option linter.unusedVariables false

/-- The row's block: element number l.length consists of the cells ce, whatever they are; the others are as told. -/
def Hole {α : Type} (S : Rep α) (T : TypeId) (w : World) (g n c : Nat) (l r : List (Ue α)) (ce : List Value) : Prop :=
  ∃ cur, w.heap[g]? = some (.cells cur T (0, 0)) ∧ n ≤ c ∧ c ≤ maxLen ∧ cur.size = c * S.n ∧ cur.toList.take (n * S.n) = flt l ++ ce ++ flt r ∧ ce.length = S.n ∧ l.length + r.length + 1 = n ∧
    ∀ e ∈ l ++ r, S.O w e.fp e.v e.x ∧ e.v.cells.size = S.n ∧ e.v.cells.all (·.oneCell') = true ∧ g ∉ e.fp
section
variable {α : Type} {S : Rep α} {T : TypeId} {w w' : World} {lo hi g n c : Nat} {l r : List (Ue α)} {ce : List Value}
theorem Hole.left (h : Hole S T w g n c l r ce) : (flt l).length = l.length * S.n := by
  obtain ⟨cur, _, _, _, _, _, _, _, h8⟩ := h
  exact flt_len l fun e he => (h8 e (List.mem_append_left _ he)).2.1
theorem Hole.cell (h : Hole S T w g n c l r ce) {j i : Nat} (hj : l.length = j) {v : Value} (hv : ce[i]? = some v) : w.cell? ⟨g, j * S.n + i, none⟩ = some v := by
  have hl := h.left
  subst hj
  obtain ⟨cur, h1, h2, h3, h4, h5, h6, h7, h8⟩ := h
  have hi : i < ce.length := (List.getElem?_eq_some_iff.1 hv).1
  have e : (cur.toList.take (n * S.n))[l.length * S.n + i]? = some v := by
    rw [h5, List.append_assoc, List.getElem?_append_right (by omega), hl, Nat.add_sub_cancel_left, List.getElem?_append_left hi]
    exact hv
  rw [List.getElem?_take] at e
  split at e
  · simp only [World.cell?, h1]
    simpa using e
  · cases e
theorem Hole.free (h : Hole S T w g n c l r ce) (i : Nat) : w.frozen? ⟨g, i, none⟩ = false := by
  obtain ⟨cur, h1, _⟩ := h
  simp [World.frozen?, h1]
theorem Hole.ks (h : Hole S T w g n c l r ce) {f : List Nat} (hb : stw.KS f w w') (hg : g ∉ f) (hd : ∀ e ∈ l ++ r, ∀ b, b ∈ e.fp → b ∉ f) : Hole S T w' g n c l r ce := by
  obtain ⟨cur, h1, h2, h3, h4, h5, h6, h7, h8⟩ := h
  exact ⟨cur, by rw [hb.block g (lt_of_block h1) hg]; exact h1, h2, h3, h4, h5, h6, h7, fun e he => ⟨S.osame (h8 e he).1 hb.size fun b hm => hb.block b (S.lt (h8 e he).1 b hm) (hd e he b hm), (h8 e he).2⟩⟩
theorem list_set_mid (a b cs : List Value) (i : Nat) (v : Value) (hi : i < cs.length) : (a ++ cs ++ b).set (a.length + i) v = a ++ cs.set i v ++ b := by
  rw [List.append_assoc, List.set_append_right _ _ (by omega), Nat.add_sub_cancel_left, List.set_append_left _ _ hi, ← List.append_assoc]
theorem Hole.set (h : Hole S T w g n c l r ce) {j i : Nat} (hj : l.length = j) (hi : i < S.n) (v : Value) : Hole S T (w.setCell ⟨g, j * S.n + i, none⟩ v) g n c l r (ce.set i v) := by
  have hl := h.left
  subst hj
  obtain ⟨cur, h1, h2, h3, h4, h5, h6, h7, h8⟩ := h
  refine ⟨cur.setIfInBounds (l.length * S.n + i) v, ?_, h2, h3, by simpa using h4, ?_, by simpa using h6, h7, fun e he => ⟨S.osame (h8 e he).1 (by simp [World.setCell]) fun b hm => Below.heap_setCell _ _ _ _ (fun e2 => (h8 e he).2.2.2 (by have e3 : b = g := e2; exact e3 ▸ hm)), (h8 e he).2⟩⟩
  · simp [World.setCell, Array.getElem?_modify, h1]
  · have hlt : l.length * S.n + i < n * S.n := by
      have : (l.length + 1) * S.n ≤ n * S.n := Nat.mul_le_mul_right _ (by omega)
      rw [Nat.add_mul, Nat.one_mul] at this
      omega
    rw [Array.toList_setIfInBounds, List.take_set, h5, ← hl]
    exact list_set_mid _ _ _ _ _ (by omega)
/-- One element taken out of a row of the call's own. -/
theorem row_hole {fp : List Nat} {v : Value} {xs : List α} {j : Nat} {x : α} (h : OO (row T S) w lo hi fp v xs) (hx : xs[j]? = some x) :
    ∃ (g n c : Nat) (l r : List (Ue α)) (u : Value) (f : List Nat), v = .slice (some ⟨g, 0, none⟩) n c ∧ l.length = j ∧ xs = l.map (·.x) ++ x :: r.map (·.x) ∧ Hole S T w g n c l r u.cells.toList ∧ OO S w lo hi f u x ∧
      fp = g :: (fps l ++ f ++ fps r) ∧ fp.Nodup ∧ u.cells.size = S.n ∧ u.cells.all (·.oneCell') = true := by
  obtain ⟨⟨A, n, c, es, e, hm, ho, hnd, h⟩, hin, hh⟩ := h
  have hjx : j < xs.length := (List.getElem?_eq_some_iff.1 hx).1
  have hje : j < es.length := by rw [← hm, List.length_map] at hjx; exact hjx
  have hes : es.take j ++ es[j] :: es.drop (j + 1) = es := by
    rw [← List.drop_eq_getElem_cons hje]; exact List.take_append_drop j es
  have hxe : es[j].x = x := by
    rw [← hm, List.getElem?_map, List.getElem?_eq_getElem hje] at hx
    simpa using hx
  have hmem : es[j] ∈ es := List.getElem_mem hje
  rcases h with ⟨_, _, _, h0, _⟩ | ⟨g, cur, rfl, hg, h2, h3, h4, h5, h6, hf⟩
  · rw [h0] at hje; simp at hje
  · have hfp : fps es = fps (es.take j) ++ es[j].fp ++ fps (es.drop (j + 1)) := by
      conv => lhs; rw [← hes]
      rw [fps_append, List.append_assoc]; rfl
    have hfl : flt es = flt (es.take j) ++ es[j].v.cells.toList ++ flt (es.drop (j + 1)) := by
      conv => lhs; rw [← hes]
      rw [flt_append, List.append_assoc]; rfl
    have hlj : (es.take j).length = j := by rw [List.length_take]; omega
    have hgn : g ∉ fps es := by rw [hf] at hnd; exact (List.nodup_cons.1 hnd).1
    refine ⟨g, n, c, es.take j, es.drop (j + 1), es[j].v, es[j].fp, e, hlj, ?_, ⟨cur, hg, h3, h4, h5, by rw [h6, hfl], by simpa using (ho _ hmem).2.1, by rw [hlj, List.length_drop]; omega, fun e he => ?_⟩, ⟨hxe ▸ (ho _ hmem).1, fun b hb => hin b (by rw [hf]; exact List.mem_cons_of_mem _ (mem_fps hmem hb)), hh⟩, by rw [hf, hfp], hnd, (ho _ hmem).2.1, (ho _ hmem).2.2⟩
    · rw [← hm]
      conv => lhs; rw [← hes]
      rw [List.map_append, List.map_cons, hxe]
    · have hm2 : e ∈ es := by
        rcases List.mem_append.1 he with he | he
        · exact List.mem_of_mem_take he
        · exact List.mem_of_mem_drop he
      exact ⟨(ho e hm2).1, (ho e hm2).2.1, (ho e hm2).2.2, fun hb => hgn (mem_fps hm2 hb)⟩
/-- It is put back, changed. -/
theorem Hole.close {fp f : List Nat} {u : Value} {x : α} (h : Hole S T w g n c l r u.cells.toList) (ho : S.O w f u x) (h1 : u.cells.all (·.oneCell') = true) (hf : fp = g :: (fps l ++ f ++ fps r)) (hnd : fp.Nodup) (hin : ∀ b, b ∈ fp → lo ≤ b ∧ b < hi) (hh : hi ≤ w.heap.size) :
    OO (row T S) w lo hi fp (.slice (some ⟨g, 0, none⟩) n c) (l.map (·.x) ++ x :: r.map (·.x)) := by
  obtain ⟨cur, h1', h2, h3, h4, h5, h6, h7, h8⟩ := h
  refine ⟨⟨_, n, c, l ++ ⟨f, u, x⟩ :: r, rfl, by simp, fun e he => ?_, hnd, .inr ⟨g, cur, rfl, h1', by simp; omega, h2, h3, h4, ?_, ?_⟩⟩, hin, hh⟩
  · rcases List.mem_append.1 he with he | he
    · have := h8 e (List.mem_append_left _ he); exact ⟨this.1, this.2.1, this.2.2.1⟩
    · rcases List.mem_cons.1 he with rfl | he
      · exact ⟨ho, by simpa using h6, h1⟩
      · have := h8 e (List.mem_append_right _ he); exact ⟨this.1, this.2.1, this.2.2.1⟩
  · rw [h5, flt_append, List.append_assoc]; rfl
  · rw [hf, fps_append, List.append_assoc]; rfl
/-- What the parts of a row without doubles do not share. -/
theorem hole_apart {fp f : List Nat} (hf : fp = g :: (fps l ++ f ++ fps r)) (hnd : fp.Nodup) : g ∉ f ∧ (∀ e ∈ l ++ r, ∀ b, b ∈ e.fp → b ∉ f) ∧ (∀ b, b ∈ f → b ∈ fp) ∧ g ∈ fp ∧ f.Nodup := by
  subst hf
  obtain ⟨h1, h2⟩ := List.nodup_cons.1 hnd
  obtain ⟨h3, h4, h5⟩ := List.nodup_append.1 h2
  obtain ⟨h6, h7, h8⟩ := List.nodup_append.1 h3
  refine ⟨fun h => h1 (by simp [h]), fun e he b hb hbf => ?_, fun b hb => by simp [hb], List.mem_cons_self, h7⟩
  rcases List.mem_append.1 he with he | he
  · exact h8 b (mem_fps he hb) b hbf rfl
  · exact h5 b (by simp [hbf]) b (mem_fps he hb) rfl
end
theorem OO.wide {α : Type} {S : Rep α} {w : World} {lo lo2 hi : Nat} {fp : List Nat} {v : Value} {x : α} (h : OO S w lo hi fp v x) (hl : lo2 ≤ lo) : OO S w lo2 w.heap.size fp v x := ⟨h.1, fun b hb => by have := h.2.1 b hb; have := h.2.2; omega, Nat.le_refl _⟩
theorem S_lt {α : Type} {S : Rep α} {w : World} {lo hi : Nat} {fp : List Nat} {v : Value} {x : α} (h : OO S w lo hi fp v x) : ∀ b, b ∈ fp → b < w.heap.size := fun b hb => by have := h.2.1 b hb; have := h.2.2; omega
theorem sumT_zero {α : Type} {f : α → Nat} (h : ∀ x, f x = 0) : ∀ l : List α, sumT f l = 0
  | [] => rfl
  | x :: r => by rw [sumT_cons, h x, sumT_zero h r]
theorem at_mid {α : Type} {mk : Int → α → α} {tot : α → Nat} {q : Int} {xs : List α} {j : Nat} {x : α} (hx : xs[j]? = some x) : (mks mk tot q (xs.take j) ++ xs.drop j)[j]? = some x := by
  have hj : j < xs.length := (List.getElem?_eq_some_iff.1 hx).1
  have hl : (mks mk tot q (xs.take j)).length = j := by rw [mks_len, List.length_take]; omega
  rw [List.getElem?_append_right (by omega), hl, Nat.sub_self, List.getElem?_drop, Nat.add_zero]
  exact hx
theorem round_mk {α : Type} {mk : Int → α → α} {tot : α → Nat} {q : Int} {xs a b : List α} {j : Nat} {x : α} (hx : xs[j]? = some x) (ha : a.length = j) (h : mks mk tot q (xs.take j) ++ xs.drop j = a ++ x :: b) :
    a ++ mk (q + (sumT tot (xs.take j) : Nat)) x :: b = mks mk tot q (xs.take (j + 1)) ++ xs.drop (j + 1) := by
  have hj : j < xs.length := (List.getElem?_eq_some_iff.1 hx).1
  have hl : (mks mk tot q (xs.take j)).length = j := by rw [mks_len, List.length_take]; omega
  obtain ⟨h1, h2⟩ := List.append_inj h (by omega)
  have h3 : xs.drop j = x :: xs.drop (j + 1) := by
    rw [List.drop_eq_getElem_cons hj]
    congr 1
    exact (List.getElem?_eq_some_iff.1 hx).2
  rw [h3] at h2
  injection h2 with _ h2
  rw [take_snoc hx, mks_snoc, h1, h2, List.append_assoc]
  rfl
theorem nd_apart {f g k : List Nat} (h : k = f ++ g) (hn : (f ++ g).Nodup) : ∀ b, b ∈ f → b ∈ g → False := fun b h1 h2 => (List.nodup_append.1 hn).2.2 b h1 b h2 rfl
/-- A row that is being filled: the blocks of what stands in it lie above it and below B. -/
def Grow {α : Type} (S : Rep α) (T : TypeId) (w : World) (g n B : Nat) (xs : List α) : Prop :=
  ∃ (cur : Array Value) (es : List (Ue α)), w.heap[g]? = some (.cells cur T (0, 0)) ∧ cur.size = n * S.n ∧ n ≤ maxLen ∧ es.map (·.x) = xs ∧ es.length ≤ n ∧ cur.toList.take (es.length * S.n) = flt es ∧ (fps es).Nodup ∧ g < B ∧ B ≤ w.heap.size ∧
    ∀ e ∈ es, S.O w e.fp e.v e.x ∧ e.v.cells.size = S.n ∧ e.v.cells.all (·.oneCell') = true ∧ ∀ b, b ∈ e.fp → g < b ∧ b < B
section
variable {α : Type} {S : Rep α} {T : TypeId} {w w' : World} {g n B : Nat} {xs : List α}
theorem Grow.start (S : Rep α) (T : TypeId) (w : World) {z : Array Value} (hn : n ≤ maxLen) (hz : z.size = n * S.n) : Grow S T (w.alloc (.cells z T)) w.heap.size n (w.alloc (.cells z T)).heap.size [] :=
  ⟨z, [], heap_alloc_new w _, hz, hn, rfl, Nat.zero_le _, by simp [flt], by simp [fps], by simp, Nat.le_refl _, fun _ h => by cases h⟩
theorem Grow.below (h : Grow S T w g n B xs) (hb : Below w.heap.size w w') : Grow S T w' g n B xs := by
  obtain ⟨cur, es, h1, h2, h3, h4, h5, h6, h7, hg, hB, h8⟩ := h
  exact ⟨cur, es, by rw [hb.block g (lt_of_block h1)]; exact h1, h2, h3, h4, h5, h6, h7, hg, by have := hb.size; omega, fun e he => ⟨S.osame (h8 e he).1 hb.size fun b hm => hb.block b (S.lt (h8 e he).1 b hm), (h8 e he).2⟩⟩
theorem Grow.there {k : Nat} (h : Grow S T w g n B xs) (hk : k < n) : w.there g (k * S.n) S.n := by
  obtain ⟨cur, es, h1, h2, h3, h4, h5, h6, h7, h8⟩ := h
  intro j hj
  have : (k + 1) * S.n ≤ n * S.n := Nat.mul_le_mul_right _ (by omega)
  rw [Nat.add_mul, Nat.one_mul] at this
  exact ⟨by simp only [World.cell?, h1]; simp; omega, by simp [World.frozen?, h1]⟩
theorem Grow.put {k lo hi : Nat} {f : List Nat} {u : Value} {x : α} {cs : List Value} (h : Grow S T w g n B xs) (hl : xs.length = k) (hk : k < n) (ho : OO S w lo hi f u x) (h1 : u.cells.all (·.oneCell') = true) (hc : u.cells.toList = cs) (hs : u.cells.size = S.n) (hB : B ≤ lo) :
    Grow S T (w.setCells g (k * S.n) cs) g n (w.setCells g (k * S.n) cs).heap.size (xs ++ [x]) := by
  subst hc
  obtain ⟨cur, es, h1', h2, h3, h4, h5, h6, h7, hg, hBs, h8⟩ := h
  have hek : es.length = k := by rw [← hl, ← h4, List.length_map]
  subst hek
  have hsz := mrw.size_setCells g u.cells.toList (es.length * S.n) w
  have hlen : u.cells.toList.length = S.n := by simpa using hs
  have hcap : es.length * S.n + S.n ≤ cur.size := by
    have := Nat.mul_le_mul_right S.n (show es.length + 1 ≤ n by omega)
    rw [Nat.add_mul, Nat.one_mul] at this
    omega
  have kp : ∀ {fp : List Nat} {v : Value} {y : α}, S.O w fp v y → (∀ b, b ∈ fp → g < b) → S.O (w.setCells g (es.length * S.n) u.cells.toList) fp v y := fun h hb => S.osame h (by omega) fun b hm => mrw.heap_setCells_ne (by have := hb b hm; omega) _ _ _
  have hfl : (flt es).length = es.length * S.n := flt_len es fun e he => (h8 e he).2.1
  refine ⟨_, es ++ [⟨f, u, x⟩], mrw.heap_setCells_same _ _ _ _ h1', by rw [mrw.lay_size]; exact h2, h3, by rw [List.map_append, h4]; rfl, by simp; omega, ?_, ?_, by omega, Nat.le_refl _, fun e he => ?_⟩
  · rw [mrw.lay_list _ _ _ (by rw [hlen]; exact hcap), hlen, h6, List.length_append, List.length_singleton, Nat.add_mul, Nat.one_mul, flt_append]
    have e1 : flt [(⟨f, u, x⟩ : Ue α)] = u.cells.toList := by simp [flt]
    have e2 : (flt es ++ u.cells.toList).length = es.length * S.n + S.n := by rw [List.length_append, hfl, hlen]
    rw [e1, List.take_append_of_le_length (by omega), List.take_of_length_le (by omega)]
  · rw [fps_append]
    have e1 : fps [(⟨f, u, x⟩ : Ue α)] = f := by simp [fps]
    rw [e1]
    refine List.nodup_append.2 ⟨h7, S.nd ho.1, fun b hb c hc2 => ?_⟩
    obtain ⟨e, he, hbe⟩ := List.mem_flatMap.1 hb
    have a1 := ((h8 e he).2.2.2 b hbe).2
    have a2 := (ho.2.1 c hc2).1
    omega
  · rw [hsz]
    rcases List.mem_append.1 he with he | he
    · exact ⟨kp (h8 e he).1 (fun b hb => ((h8 e he).2.2.2 b hb).1), (h8 e he).2.1, (h8 e he).2.2.1, fun b hb => by have := (h8 e he).2.2.2 b hb; omega⟩
    · obtain rfl : e = ⟨f, u, x⟩ := by simpa using he
      exact ⟨kp ho.1 (fun b hb => by have := (ho.2.1 b hb).1; omega), hs, h1, fun b hb => by have a1 := ho.2.1 b hb; have a2 := ho.2.2; omega⟩
theorem Grow.done (h : Grow S T w g n B xs) (hl : xs.length = n) : ∃ fp, OO (row T S) w g w.heap.size fp (.slice (some ⟨g, 0, none⟩) n n) xs := by
  obtain ⟨cur, es, h1, h2, h3, h4, h5, h6, h7, hg, hB, h8⟩ := h
  have hen : es.length = n := by rw [← hl, ← h4, List.length_map]
  have hgn : g ∉ fps es := fun hm => by
    obtain ⟨e, he, hbe⟩ := List.mem_flatMap.1 hm
    have := ((h8 e he).2.2.2 g hbe).1
    omega
  refine ⟨g :: fps es, ⟨_, n, n, es, rfl, h4, fun e he => ⟨(h8 e he).1, (h8 e he).2.1, (h8 e he).2.2.1⟩, List.nodup_cons.2 ⟨hgn, h7⟩, .inr ⟨g, cur, rfl, h1, hen, Nat.le_refl _, h3, h2, by rw [← hen]; exact h6, rfl⟩⟩, fun b hb => ?_, Nat.le_refl _⟩
  rcases List.mem_cons.1 hb with rfl | hb
  · exact ⟨Nat.le_refl _, lt_of_block h1⟩
  · obtain ⟨e, he, hbe⟩ := List.mem_flatMap.1 hb
    have := (h8 e he).2.2.2 b hbe
    omega
end
end Go.Proofs.Ytejjafmppihneaa.ux
