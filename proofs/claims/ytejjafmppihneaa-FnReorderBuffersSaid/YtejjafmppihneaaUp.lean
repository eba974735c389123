/- Appends onto rows of whatever elements, in the words of the harness (OO): one element of the call's own is appended out of a block made for it; as a step of a list, and of a region that draws its order. Condition: together at most 2^30 elements. -/
import Derived.Test.YtejjafmppihneaaUh
import Derived.Test.YtejjafmppihneaaMra
import Derived.Test.YtejjafmppihneaaRgp
namespace Go.Proofs.Ytejjafmppihneaa.ux
open Go.RowKit sl harn bx
open mrw (blkOf grown_below grown_trans grown_bx below_grown)
set_option linter.unusedVariables false

/-- Cells appended onto an own row of cells, told exactly. -/
theorem own_more {P : Program} {T : TypeId} {s lo n cap : Nat} {A : Option Addr} {L M : List Value} {w : World} (t ty : TypeId) (i : TypeInfo) (z : Value) (h1 : P.underlying t = some (.slice T)) (h2 : P.info? T = some i) (h3 : i.zero = some z) (h4 : i.size = s) (h5 : i.bytes ≤ 128) (h6 : z.cells.size = s) (hs : 0 < s)
    (h : w.ownsRow lo T s (.slice A n cap) n L) (hone : ∀ u ∈ M, u.oneCell' = true) (ad : Addr) (m c : Nat) (hm : M.length = m * s) (hsrc : ∀ j u, M[j]? = some u → w.cell? (ad.add j) = some u) (hn : n + m ≤ 1073741824) (hlo : lo ≤ w.heap.size) :
    ∃ A' cap' w', (Builtin.append_ #[t, t] ty #[.slice A n cap, .slice (some ad) m c]).run P w = .ok (.slice A' (n + m) cap') w' ∧ w'.ownsRow lo T s (.slice A' (n + m) cap') (n + m) (L ++ M) ∧ w.grownBy w' (blkOf A) ∧ w'.ownsRow lo T s (.slice A n cap) n L ∧ (blkOf A' = blkOf A ∨ ∀ q, blkOf A' = some q → w.heap.size ≤ q) := by
  have hb8 : (n + m) * i.bytes ≤ 140737488355328 := by
    have := Nat.mul_le_mul hn h5
    omega
  have hlen : (L ++ M).length = (n + m) * s := by rw [List.length_append, h.1, hm, Nat.add_mul]
  have grown : ∀ (old : Nat), old < n + m →
      (w.drew.alloc (.cells (L.toArray ++ M.toArray ++ Builtin.zeroCells z.cells (grownCap w (n + m) old T - (n + m))) T)).ownsRow lo T s
        (.slice (some ⟨w.heap.size, 0, none⟩) (n + m) (grownCap w (n + m) old T)) (n + m) (L ++ M) ∧
      Below w.heap.size w (w.drew.alloc (.cells (L.toArray ++ M.toArray ++ Builtin.zeroCells z.cells (grownCap w (n + m) old T - (n + m))) T)) := by
    intro old ho
    have hge := grownCap_ge w (n + m) old T
    have hcm : grownCap w (n + m) old T ≤ maxLen := grownCap_le_maxLen w (n + m) old T (by unfold maxLen; omega)
    refine ⟨⟨hlen, .inr ⟨w.heap.size, _, _, rfl, hlo, heap_alloc_new w.drew _, hge, hcm, ?_, ?_⟩⟩, ⟨rfl, rfl, rfl, by simp, fun k hk => heap_alloc_old w.drew _ hk⟩⟩
    · simp only [Array.size_append, List.size_toArray, size_zeroCells, h6, h.1, hm, ← Nat.add_mul]
      congr 1
      omega
    · simp only [Array.toList_append, List.append_assoc]
      rw [← List.append_assoc, ← hlen]
      exact List.take_left
  have keep : ∀ {w' : World}, Below w.heap.size w w' → w'.ownsRow lo T s (.slice A n cap) n L := fun {w'} hb => by
    refine ⟨h.1, ?_⟩
    rcases h.2 with h2 | ⟨g, c', cur, e, g1, g2, g3⟩
    · exact .inl h2
    · exact .inr ⟨g, c', cur, e, g1, (hb.block g (lt_of_block g2)).trans g2, g3⟩
  rcases h.2 with ⟨e, e0⟩ | ⟨g, c', cur, e, hg1, hcur, hnc, hcm, hcs, htake⟩
  · injection e with e1 e2 e3
    subst e1 e2 e3
    have he : L = [] := List.eq_nil_of_length_eq_zero (by rw [h.1]; simp)
    subst he
    by_cases hm0 : m = 0
    · subst hm0
      have hf : M = [] := List.eq_nil_of_length_eq_zero (by rw [hm]; simp)
      subst hf
      refine ⟨none, 0, w, ?_, ⟨by simp, .inl ⟨rfl, rfl⟩⟩, ⟨rfl, rfl, rfl, Nat.le_refl _, fun _ _ _ => rfl⟩, h, Or.inl rfl⟩
      simp [Builtin.append_, run_underlying h1, sizeOf, typeInfo, h2, Builtin.lenOf, Builtin.firstCells, loadCells, loadCellsFrom]
    · have hr := run_append_nil (P := P) w t ty T i z h1 h2 h3 ad m c M (by rw [hm, h4]) hsrc (by omega) (by omega) (by have hb := hb8; simp only [Nat.zero_add] at hb; omega)
      have hgr := grown 0 (by omega)
      simp only [Nat.zero_add, List.nil_append, Array.empty_append] at hgr ⊢
      refine ⟨_, _, _, hr, by simpa using hgr.1, grown_below hgr.2 _, keep hgr.2, Or.inr fun q hq => ?_⟩
      have : w.heap.size = q := by simpa using hq
      omega
  · injection e with e1 e2 e3
    subst e1 e3
    by_cases hroom : n + m ≤ cap
    · obtain ⟨w', hr, g1, g2⟩ := run_append_fits (P := P) w lo t ty T i s h1 h2 h4 g n cap L h ad m c M hm hsrc hone hroom
      refine ⟨_, _, w', hr, g1, g2, ?_, Or.inl rfl⟩
      obtain ⟨cur', k1, k2, k3, k4, k5, k6⟩ := mrw.row_at g1
      refine ⟨h.1, .inr ⟨g, cap, cur', rfl, k2, k1, hnc, hcm, k5, ?_⟩⟩
      have := congrArg (List.take (n * s)) k6
      rw [List.take_take, Nat.min_eq_left (Nat.mul_le_mul_right _ (by omega)), List.take_append_of_le_length (by rw [h.1]; exact Nat.le_refl _)] at this
      exact this.trans (List.take_of_length_le (by rw [h.1]; exact Nat.le_refl _))
    · have hr := run_append_grow (P := P) w t ty T i z h1 h2 h3 ⟨g, 0, none⟩ n cap L (by rw [h4]; exact h.1) (h.cells (g := g) rfl) ad m c M (by rw [hm, h4]) hsrc (by omega) (by omega) (growslice_fits (by omega) hb8)
      have hgr := grown cap (by omega)
      refine ⟨_, _, _, hr, hgr.1, grown_below hgr.2 _, keep hgr.2, Or.inr fun q hq => ?_⟩
      have : w.heap.size = q := by simpa using hq
      omega
section
variable {α : Type} {S : Rep α} {T : TypeId} {w w' : World} {lo hi n cap : Nat} {A : Option Addr} {fp : List Nat} {xs : List α}
/-- An own row, opened: its own cells and its elements. -/
theorem row_parts (h : OO (row T S) w lo hi fp (.slice A n cap) xs) : ∃ es : List (Ue α), es.map (·.x) = xs ∧ (∀ e ∈ es, S.O w e.fp e.v e.x ∧ e.v.cells.size = S.n ∧ e.v.cells.all (·.oneCell') = true) ∧ fp = blks A ++ fps es ∧ fp.Nodup ∧ w.ownsRow lo T S.n (.slice A n cap) n (flt es) ∧ es.length = n := by
  obtain ⟨⟨A', n', c', es, e, hm, ho, hnd, hf⟩, hin, hh⟩ := h
  injection e with e1 e2 e3
  subst e1 e2 e3
  refine ⟨es, hm, ho, ?_, hnd, ?_⟩
  · rcases hf with ⟨rfl, rfl, rfl, rfl, rfl⟩ | ⟨g, cur, rfl, h1, h2, h3, h4, h5, h6, rfl⟩
    · rfl
    · rfl
  · rcases hf with ⟨rfl, rfl, rfl, rfl, rfl⟩ | ⟨g, cur, rfl, h1, h2, h3, h4, h5, h6, rfl⟩
    · exact ⟨⟨by simp [flt], .inl ⟨rfl, rfl⟩⟩, rfl⟩
    · exact ⟨⟨by rw [flt_len es (fun e he => (ho e he).2.1), h2], .inr ⟨g, cap, cur, rfl, (hin g List.mem_cons_self).1, h1, h3, h4, h5, h6⟩⟩, h2⟩
theorem row_close {es : List (Ue α)} (hm : es.map (·.x) = xs) (ho : ∀ e ∈ es, S.O w e.fp e.v e.x ∧ e.v.cells.size = S.n ∧ e.v.cells.all (·.oneCell') = true) (hnd : (blks A ++ fps es).Nodup) (hr : w.ownsRow lo T S.n (.slice A n cap) n (flt es)) (hin : ∀ b, b ∈ fps es → lo ≤ b ∧ b < hi) (hA : ∀ b, b ∈ blks A → b < hi) (hh : hi ≤ w.heap.size) : OO (row T S) w lo hi (blks A ++ fps es) (.slice A n cap) xs := by
  have hl : es.length = n := by
    have h1 := hr.1
    rw [flt_len es (fun e he => (ho e he).2.1)] at h1
    exact Nat.eq_of_mul_eq_mul_right S.pos h1
  rcases hr.2 with ⟨e, e0⟩ | ⟨g, c', cur, e, h1, h2, h3, h4, h5, h6⟩
  · injection e with e1 e2 e3
    subst e1 e2 e3
    obtain rfl : es = [] := List.length_eq_zero_iff.1 hl
    exact ⟨⟨none, 0, 0, [], rfl, hm, fun _ h => (by cases h), List.nodup_nil, .inl ⟨rfl, rfl, rfl, rfl, rfl⟩⟩, fun b hb => (by cases hb), hh⟩
  · injection e with e1 e2 e3
    subst e1 e3
    refine ⟨⟨_, n, cap, es, rfl, hm, ho, hnd, .inr ⟨g, cur, rfl, h2, hl, h3, h4, h5, h6, rfl⟩⟩, fun b hb => ?_, hh⟩
    rcases List.mem_append.1 hb with hb | hb
    · have hg : b = g := by simpa [blks] using hb
      exact ⟨by omega, hA b hb⟩
    · exact hin b hb
theorem row_blk (h : OO (row T S) w lo hi fp (.slice A n cap) xs) {q : Nat} (hq : blkOf A = some q) : lo ≤ q ∧ q < hi ∧ q ∈ fp := by
  obtain ⟨es, _, _, hf, _⟩ := row_parts h
  have : q ∈ fp := by
    rw [hf]
    cases A with
    | none => cases hq
    | some a => have : a.block = q := by simpa using hq
                simp [blks, this]
  exact ⟨(h.2.1 q this).1, (h.2.1 q this).2, this⟩
/-- Whatever is apart from a row's own block stays when the row grows. -/
theorem oo_grown {β : Type} {S2 : Rep β} {v : Value} {x : β} {f : List Nat} {lo2 hi2 : Nat} (h : OO S2 w lo2 hi2 f v x) {r : Option Nat} (hg : w.grownBy w' r) (hd : ∀ b, b ∈ f → some b ≠ r) : OO S2 w' lo2 hi2 f v x :=
  ⟨S2.osame h.1 hg.size fun b hb => hg.block b (S2.lt h.1 b hb) (hd b hb), h.2.1, by have := h.2.2; have := hg.size; omega⟩
theorem rr_grown {β : Type} {S2 : Rep β} {v : Value} {x : β} {lo2 hi2 : Nat} (h : RR S2 w lo2 hi2 v x) {r : Option Nat} (hg : w.grownBy w' r) (hd : ∀ b, lo2 ≤ b → b < hi2 → some b ≠ r) : RR S2 w' lo2 hi2 v x :=
  h.same hg.size fun b h1 h2 => hg.block b (by have := h.hi_; omega) (hd b h1 h2)
/-- One element of the call's own appended out of a block that holds it. -/
theorem row_push {P : Program} (t ty : TypeId) (i : TypeInfo) (z : Value) (h1 : P.underlying t = some (.slice T)) (h2 : P.info? T = some i) (h3 : i.zero = some z) (h4 : i.size = S.n) (h5 : i.bytes ≤ 128) (h6 : z.cells.size = S.n)
    (h : OO (row T S) w lo hi fp (.slice A n cap) xs) {u : Value} {f : List Nat} {x : α} {lo2 hi2 : Nat} (hu : OO S w lo2 hi2 f u x) (hd : ∀ b, b ∈ f → b ∉ fp) (hlo2 : lo ≤ lo2) (q c : Nat) (hX : Bx T w q u.cells) (hu1 : u.cells.all (·.oneCell') = true) (hus : u.cells.size = S.n) (hn : n + 1 ≤ 1073741824) (hlo : lo ≤ w.heap.size) :
    ∃ A' cap' w' fp', (Builtin.append_ #[t, t] ty #[.slice A n cap, .slice (some ⟨q, 0, none⟩) 1 c]).run P w = .ok (.slice A' (n + 1) cap') w' ∧ OO (row T S) w' lo w'.heap.size fp' (.slice A' (n + 1) cap') (xs ++ [x]) ∧ w.grownBy w' (blkOf A) ∧ OO (row T S) w' lo hi fp (.slice A n cap) xs ∧ ∀ b, b ∈ fp' → b ∈ fp ∨ b ∈ f ∨ w.heap.size ≤ b := by
  obtain ⟨es, hm, ho, hf, hnd, hr, hl⟩ := row_parts h
  obtain ⟨A', cap', w', hrun, g1, g2, g3, g4⟩ := own_more (P := P) t ty i z h1 h2 h3 h4 h5 h6 S.pos hr (M := u.cells.toList) (fun v hv => (Array.all_eq_true_iff_forall_mem.1 hu1) v (by simpa using hv)) ⟨q, 0, none⟩ 1 c (by simp [hus]) (fun j v hv => by
    have e2 : (⟨q, 0, none⟩ : Addr).add j = ⟨q, j, none⟩ := by unfold Addr.add; split <;> simp_all
    rw [e2, hX.cell j]
    simpa using hv) hn hlo
  have hApart : ∀ b, b ∈ fps es → some b ≠ blkOf A := by
    intro b hb e
    rw [hf] at hnd
    cases A with
    | none => cases e
    | some a =>
      have : b = a.block := by simpa using e
      exact (List.nodup_append.1 hnd).2.2 b (by rw [this]; simp [blks]) b hb rfl
  have hfA : ∀ b, b ∈ f → some b ≠ blkOf A := by
    intro b hb e
    exact hd b hb (by
      rw [hf]
      cases A with
      | none => cases e
      | some a => have : b = a.block := by simpa using e
                  rw [this]; simp [blks])
  have hold : ∀ e ∈ es, S.O w' e.fp e.v e.x ∧ e.v.cells.size = S.n ∧ e.v.cells.all (·.oneCell') = true := fun e he =>
    ⟨S.osame (ho e he).1 g2.size fun b hb => g2.block b (S.lt (ho e he).1 b hb) (hApart b (mem_fps he hb)), (ho e he).2⟩
  have hlt : ∀ b, b ∈ fps es → lo ≤ b ∧ b < hi := fun b hb => h.2.1 b (by rw [hf]; exact List.mem_append_right _ hb)
  have hnew : S.O w' f u x := S.osame hu.1 g2.size fun b hb => g2.block b (S.lt hu.1 b hb) (hfA b hb)
  have hA' : ∀ b, b ∈ blks A' → b < w'.heap.size ∧ (b ∈ blks A ∨ w.heap.size ≤ b) := by
    intro b hb
    have hb2 : blkOf A' = some b := by
      cases A' with
      | none => cases hb
      | some a => have : b = a.block := by simpa [blks] using hb
                  simp [this]
    refine ⟨?_, ?_⟩
    · rcases g1.2 with ⟨e, _⟩ | ⟨g, c', cur, e, _, k2, _⟩
      · injection e with e; rw [e] at hb; cases hb
      · injection e with e
        rw [e] at hb
        have : b = g := by simpa [blks] using hb
        rw [this]; exact lt_of_block k2
    · rcases g4 with g4 | g4
      · left
        rw [g4] at hb2
        cases A with
        | none => cases hb2
        | some a => have : a.block = b := by simpa using hb2
                    simp [blks, this]
      · right; exact g4 b hb2
  have e1 : fps (es ++ [⟨f, u, x⟩]) = fps es ++ f := by simp [fps]
  have hnd2 : (blks A' ++ fps (es ++ [⟨f, u, x⟩])).Nodup := by
    rw [e1]
    rw [hf] at hnd
    have k := List.nodup_append.1 hnd
    refine List.nodup_append.2 ⟨by cases A' <;> simp [blks], List.nodup_append.2 ⟨k.2.1, S.nd hu.1, fun a ha b hb e => ?_⟩, fun a ha b hb e => ?_⟩
    · subst e; exact hd a hb (by rw [hf]; exact List.mem_append_right _ ha)
    · subst e
      rcases (hA' a ha).2 with h7 | h7
      · rcases List.mem_append.1 hb with hb | hb
        · exact k.2.2 a h7 a hb rfl
        · exact hd a hb (by rw [hf]; exact List.mem_append_left _ h7)
      · rcases List.mem_append.1 hb with hb | hb
        · have := (hlt a hb).2; have := h.2.2; omega
        · have := S.lt hu.1 a hb; omega
  have hrow2 : w'.ownsRow lo T S.n (.slice A' (n + 1) cap') (n + 1) (flt (es ++ [⟨f, u, x⟩])) := by
    have : flt (es ++ [⟨f, u, x⟩]) = flt es ++ u.cells.toList := by simp [flt]
    rw [this]; exact g1
  have hfin := row_close (hi := w'.heap.size) (xs := xs ++ [x]) (es := es ++ [⟨f, u, x⟩]) (by simp [hm]) (fun e he => by
    rcases List.mem_append.1 he with he | he
    · exact hold e he
    · obtain rfl : e = ⟨f, u, x⟩ := by simpa using he
      exact ⟨hnew, hus, hu1⟩) hnd2 hrow2 (fun b hb => by
    rw [e1] at hb
    rcases List.mem_append.1 hb with hb | hb
    · have := hlt b hb; have := h.2.2; have := g2.size; omega
    · have := hu.2.1 b hb; have := hu.2.2; have := g2.size; omega) (fun b hb => (hA' b hb).1) (Nat.le_refl _)
  have hkept := row_close (hi := hi) (xs := xs) (es := es) hm hold (by rw [← hf]; exact hnd) g3 hlt (fun b hb => (h.2.1 b (by rw [hf]; exact List.mem_append_left _ hb)).2) (by have := h.2.2; have := g2.size; omega)
  refine ⟨A', cap', w', _, hrun, hfin, g2, by rw [← hf] at hkept; exact hkept, fun b hb => ?_⟩
  rw [e1] at hb
  rcases List.mem_append.1 hb with hb | hb
  · rcases (hA' b hb).2 with h7 | h7
    · exact .inl (by rw [hf]; exact List.mem_append_left _ h7)
    · exact .inr (.inr h7)
  · rcases List.mem_append.1 hb with hb | hb
    · exact .inl (by rw [hf]; exact List.mem_append_right _ hb)
    · exact .inr (.inl hb)
end
/-- An empty row made. -/
theorem row_empty {α : Type} (T : TypeId) (S : Rep α) {w : World} {b : Nat} (h : Bx T w b #[]) : OO (row T S) w b (b + 1) [b] (.slice (some ⟨b, 0, none⟩) 0 0) [] :=
  ⟨⟨_, 0, 0, [], rfl, rfl, fun _ h => (by cases h), by simp, .inr ⟨b, #[], rfl, h, rfl, Nat.le_refl _, by unfold maxLen; omega, by simp, by simp [flt], by simp [fps]⟩⟩, fun c hc => by have h9 : c = b := (by simpa using hc); omega, by have := h.lt; omega⟩
theorem row_nil {α : Type} (T : TypeId) (S : Rep α) (w : World) {lo hi : Nat} (h : hi ≤ w.heap.size) : OO (row T S) w lo hi [] (.slice none 0 0) [] :=
  ⟨⟨none, 0, 0, [], rfl, rfl, fun _ h => (by cases h), List.nodup_nil, .inl ⟨rfl, rfl, rfl, rfl, rfl⟩⟩, fun b hb => (by cases hb), h⟩
section
variable {P : Program} {α : Type} {S : Rep α} {T : TypeId}
/-- As a step of a list. -/
theorem list_push {w : World} {ops : Array Oper} {rest : List Oper} {o : Oper} {a : Act} {Q : Exit → Act → World → Prop} (hgd : o.guard = none) (s x : Operand) (t : TypeId)
    (hop : o.op = .call { callee := .builtin .append, args := #[s, x], argTypes := #[t, t] })
    {i : TypeInfo} {z : Value} (h1 : P.underlying t = some (.slice T)) (h2 : P.info? T = some i) (h3 : i.zero = some z) (h4 : i.size = S.n) (h5 : i.bytes ≤ 128) (h6 : z.cells.size = S.n)
    {lo hi n cap q c : Nat} {A : Option Addr} {fp : List Nat} {xs : List α} (hs : a.eval s = .slice A n cap) (hx : a.eval x = .slice (some ⟨q, 0, none⟩) 1 c) (h : OO (row T S) w lo hi fp (.slice A n cap) xs) {u : Value} {f : List Nat} {y : α} {lo2 hi2 : Nat} (hu : OO S w lo2 hi2 f u y) (hd : ∀ b, b ∈ f → b ∉ fp) (hlo2 : lo ≤ lo2)
    (hX : Bx T w q u.cells) (hu1 : u.cells.all (·.oneCell') = true) (hus : u.cells.size = S.n) (hn : n + 1 ≤ 1073741824) (hlo : lo ≤ w.heap.size)
    (hK : ∀ A' cap' w' fp', OO (row T S) w' lo w'.heap.size fp' (.slice A' (n + 1) cap') (xs ++ [y]) → w.grownBy w' (blkOf A) → (∀ b, b ∈ fp' → b ∈ fp ∨ b ∈ f ∨ w.heap.size ≤ b) → wpList P ops Q rest (a.put o.dst (.slice A' (n + 1) cap')) w') : wpList P ops Q (o :: rest) a w := by
  refine wpList_plain hgd fun K hK' => ?_
  obtain ⟨A', cap', w', fp', hrun, g1, g2, _, g3⟩ := row_push (P := P) t o.type i z h1 h2 h3 h4 h5 h6 h hu hd hlo2 q c hX hu1 hus hn hlo
  unfold Oper.wp execOp
  simp only [hop, resolve, invoke, builtin, Sem.run_bind, Sem.run_pure, Result.andThen_ok, List.map_toArray, List.map_cons, List.map_nil, hs, hx, hrun]
  exact hK' _ _ (hK A' cap' w' fp' g1 g2 g3)
/-- As a step of a region that draws its order. -/
theorem step_push {ops : Array Oper} {o : Oper} {a : Act} {w : World} {K : Act → World → Prop} {Q : Exit → Act → World → Prop} {X : Prop} (hgd : o.guard = none) (s x : Operand) (t : TypeId)
    (hop : o.op = .call { callee := .builtin .append, args := #[s, x], argTypes := #[t, t] })
    {i : TypeInfo} {z : Value} (h1 : P.underlying t = some (.slice T)) (h2 : P.info? T = some i) (h3 : i.zero = some z) (h4 : i.size = S.n) (h5 : i.bytes ≤ 128) (h6 : z.cells.size = S.n)
    {lo hi n cap q c : Nat} {A : Option Addr} {fp : List Nat} {xs : List α} (hs : a.eval s = .slice A n cap) (hx : a.eval x = .slice (some ⟨q, 0, none⟩) 1 c) (h : OO (row T S) w lo hi fp (.slice A n cap) xs) {u : Value} {f : List Nat} {y : α} {lo2 hi2 : Nat} (hu : OO S w lo2 hi2 f u y) (hd : ∀ b, b ∈ f → b ∉ fp) (hlo2 : lo ≤ lo2)
    (hX : Bx T w q u.cells) (hu1 : u.cells.all (·.oneCell') = true) (hus : u.cells.size = S.n) (hn : n + 1 ≤ 1073741824) (hlo : lo ≤ w.heap.size)
    (hK : ∀ A' cap' w' fp', OO (row T S) w' lo w'.heap.size fp' (.slice A' (n + 1) cap') (xs ++ [y]) → w.grownBy w' (blkOf A) → (∀ b, b ∈ fp' → b ∈ fp ∨ b ∈ f ∨ w.heap.size ≤ b) → K (a.put o.dst (.slice A' (n + 1) cap')) w') :
    if Region.wanted o (yielded ops a.tmps) = true then Oper.wp P o a w K Q else X := by
  have hw : Region.wanted o (yielded ops a.tmps) = true := by simp [Region.wanted, hgd]
  rw [if_pos hw]
  obtain ⟨A', cap', w', fp', hrun, g1, g2, _, g3⟩ := row_push (P := P) t o.type i z h1 h2 h3 h4 h5 h6 h hu hd hlo2 q c hX hu1 hus hn hlo
  unfold Oper.wp execOp
  simp only [hop, resolve, invoke, builtin, Sem.run_bind, Sem.run_pure, Result.andThen_ok, List.map_toArray, List.map_cons, List.map_nil, hs, hx, hrun]
  exact hK A' cap' w' fp' g1 g2 g3
end
end Go.Proofs.Ytejjafmppihneaa.ux
