/- A row of headers of slices of bytes; an aggregate with one damaged delimiter. Condition: none. -/
import Derived.Test.YthgbmcdfbinpkaaAg7
import Derived.Test.YthgbmcdfbinpkaaAtv
namespace Go.Proofs.Ythgbmcdfbinpkaa.ag
open Go.RowKit sl harn bx rng mrw drk stw
set_option linter.unusedVariables false
set_option linter.unusedSimpArgs false

theorem Rq.upto {w W : World} {lo hi n c B : Nat} {A : Option Addr} {ms : List (List Int)} (h : Rq bsS w lo hi A n c ms) (hb : Below B w W) (hB : hi ≤ B) : Rq bsS W lo hi A n c ms := h.same hb.size fun b _ hlt => hb.block b (by omega)
theorem Rd.upto {k : IntKind} {w W : World} {lo hi n c B : Nat} {A : Option Addr} {zs : List Int} (h : Rd k w lo hi A n c zs) (hb : Below B w W) (hB : hi ≤ B) : Rd k W lo hi A n c zs := h.same hb.size fun b _ hlt => hb.block b (by omega)
theorem ow_boxI {w : World} {b : Nat} (h : Bx 3 w b #[]) : Ow 3 .i64 w b w.heap.size (some ⟨b, 0, none⟩) 0 0 [] :=
  ⟨⟨by simp, .inr ⟨b, 0, #[], rfl, Nat.le_refl _, h, Nat.le_refl _, by unfold maxLen; omega, by simp, by simp⟩⟩, Wf.nil _, Nat.le_refl _, fun g o e => by injection e with e; injection e with e _; subst e; exact h.lt⟩
def lens (l : List (List Int)) : List Int := l.map fun f => (f.length : Int)
theorem lens_snoc {l : List (List Int)} {k : Nat} {y : List Int} (h : l[k]? = some y) : lens (l.take (k + 1)) = lens (l.take k) ++ [(y.length : Int)] := by unfold lens; rw [take_snocB h, List.map_append]; rfl
theorem lens_len (l : List (List Int)) : (lens l).length = l.length := List.length_map ..
theorem pd_dlm {x : Int} (h : 0 ≤ x ∧ x ≤ 200) : pd (dlm x) 0 = (x, true) := by
  have e : at2 (dlm x) 0 = x := by rw [dlm_yes h]; simp [at2]
  have h1 := pd_yes (l := dlm x) (o := 0) (by rw [dlm_yes h]; simp) (by rw [e, dlm_yes h]; rfl)
  rw [e] at h1
  exact h1
theorem sml_agg {l : List (List Int)} (h : Sml l) : agg l = l.flatMap sfr := agg_yes (by have := h.1; omega) fun f hf => by have := h.2 f hf; omega
theorem sml_split {l : List (List Int)} (h : Sml l) : split 8 (agg l) = l := by
  have h1 := split_flat (l := l) (m := 8) (r := []) (fun f hf => by have := h.2 f hf; omega) (by have := h.1; omega)
  rw [List.append_nil, split_end (.inl rfl), List.append_nil] at h1
  rw [sml_agg h]; exact h1
theorem sml_len {l : List (List Int)} (h : Sml l) : ((agg l).length : Int) = sumS (lens l) := by
  rw [sml_agg h]; exact flat_len fun f hf => by have := h.2 f hf; omega
theorem sml_four {l : List (List Int)} (h : Sml l) : (agg l).length % 4 = 0 := by
  rw [sml_agg h]; exact flat_four _ fun f hf => by have := h.2 f hf; omega
theorem nbel {v : Int} {w w' : World} {e : Ending} (h : e = .returned (.int .i64 v) ∧ w = w') : e = .returned (.int .i64 v) ∧ Below w.heap.size w w' := ⟨h.1, h.2 ▸ Below.refl _ _⟩
theorem bbel {v : Bool} {w w' : World} {e : Ending} (h : e = .returned (.bool v) ∧ w = w') : e = .returned (.bool v) ∧ Below w.heap.size w w' := ⟨h.1, h.2 ▸ Below.refl _ _⟩

/-- A row of slices' headers of the call's own. -/
def Hr (w : World) (lo : Nat) (A : Option Addr) (n c : Nat) (hs : List Value) : Prop := w.ownsRow lo 22 1 (.slice A n c) n hs
def hdr (e : El (List Int)) : Value := .slice e.A e.n e.c
theorem Hr.empty (w : World) : Hr (w.alloc (.cells #[] 22)) w.heap.size (some ⟨w.heap.size, 0, none⟩) 0 0 [] :=
  ⟨by simp, .inr ⟨w.heap.size, 0, #[], rfl, Nat.le_refl _, heap_alloc_new w _, Nat.le_refl _, by unfold maxLen; omega, by simp, by simp⟩⟩
theorem Hr.below {w w' : World} {lo n c : Nat} {A : Option Addr} {hs : List Value} (h : Hr w lo A n c hs) (hb : Below w.heap.size w w') : Hr w' lo A n c hs := by
  refine ⟨h.1, ?_⟩
  rcases h.2 with h2 | ⟨g, c', cur, e, g1, g2, g3⟩
  · exact Or.inl h2
  · exact Or.inr ⟨g, c', cur, e, g1, (hb.block g (lt_of_block g2)).trans g2, g3⟩
theorem Hr.cap_ {w : World} {lo n c : Nat} {A : Option Addr} {hs : List Value} (h : Hr w lo A n c hs) : n ≤ c ∧ c ≤ 9223372036854775807 := by
  rcases h.2 with ⟨e, h0⟩ | ⟨g, c', cur, e, g1, g2, g3, g4, _⟩
  · injection e with e1 e2 e3
    omega
  · injection e with e1 e2 e3
    unfold maxLen at g4; omega
theorem wpList_hdr {P : Program} (w : World) {ops : Array Oper} {rest : List Oper} {o : Oper} {a : Act} {Q : Exit → Act → World → Prop} (hgd : o.guard = none) (s x : Operand) (t : TypeId)
    (hop : o.op = .call { callee := .builtin .append, args := #[s, x], argTypes := #[t, t] })
    {i : TypeInfo} {z : Value} (h1 : P.underlying t = some (.slice 22)) (h2 : P.info? 22 = some i) (h3 : i.zero = some z) (h4 : i.size = 1) (h5 : i.bytes ≤ 128) (h6 : z.cells.size = 1)
    {lo n cap : Nat} {A : Option Addr} {hs : List Value} (ha : a.eval s = .slice A n cap) (hx : a.eval x = .slice (some ⟨w.heap.size, 0, none⟩) 1 1) (h : Hr w lo A n cap hs) (B : Option Addr) (m c : Nat) (hn : n + 1 ≤ 1000000) (hlo : lo ≤ w.heap.size)
    (hK : ∀ A' cap' w', Hr w' lo A' (n + 1) cap' (hs ++ [.slice B m c]) → Below lo w w' → wpList P ops Q rest (a.put o.dst (.slice A' (n + 1) cap')) w') : wpList P ops Q (o :: rest) a (w.alloc (.cells #[.slice B m c] 22)) := by
  refine wpList_plain hgd fun K hK' => ?_
  have h0 : (w.alloc (.cells #[.slice B m c] 22)).ownsRow lo 22 1 (.slice A n cap) n hs := h.below (below_box _ _)
  have hlo2 : lo ≤ (w.alloc (.cells #[.slice B m c] 22)).heap.size := by simp; omega
  obtain ⟨v', w', hrun, g1, g2, g3, g4⟩ := run_append_own_at (P := P) (w.alloc (.cells #[.slice B m c] 22)) lo t o.type 22 i z 1 i.bytes h1 h2 h3 h4 rfl h6 Nat.one_pos _ n _ h0 ⟨w.heap.size, 0, none⟩ 1 1 [.slice B m c] rfl
    (fun j u hu => by
      have hj : j = 0 := by
        have := (List.getElem?_eq_some_iff.1 hu).1
        simpa using this
      subst hj
      have : Value.slice B m c = u := by simpa using hu
      rw [← this]
      have e2 : (⟨w.heap.size, 0, none⟩ : Addr).add 0 = ⟨w.heap.size, 0, none⟩ := by simp [Addr.add]
      rw [e2]; simp)
    (fun u hu => by
      have : u = Value.slice B m c := by simpa using hu
      rw [this]; rfl) (by unfold maxLen; omega) (by have := Nat.mul_le_mul hn h5; omega) hlo2
  obtain ⟨A', cap', rfl⟩ : ∃ A' cap', v' = .slice A' (n + 1) cap' := by
    rcases g1.2 with ⟨e, h0⟩ | ⟨g, c', cur, e, _⟩
    · omega
    · exact ⟨_, _, e⟩
  have hbel : Below lo w w' := ((Below.refl lo w).alloc hlo (.cells #[.slice B m c] 22)).grown g2 hlo2 fun q hq => by
    rcases h.2 with ⟨e, _⟩ | ⟨g, c', cur, e, k1, _⟩
    · rw [e] at hq; cases hq
    · rw [e] at hq
      have : some g = some q := hq
      injection this with this
      omega
  unfold Oper.wp execOp
  simp only [hop, resolve, invoke, builtin, Sem.run_bind, Sem.run_pure, Result.andThen_ok, List.map_toArray, List.map_cons, List.map_nil, ha, hx, hrun]
  exact hK' _ _ (hK A' cap' w' g1 hbel)
theorem Hr.rq {w : World} {lo n c : Nat} {A : Option Addr} {es : List (El (List Int))} (h : Hr w lo A n c (es.map hdr)) (hb : ∀ e ∈ es, ∃ l h, Rd .u8 w l h e.A e.n e.c e.x) : Rq bsS w 0 w.heap.size A n c (es.map fun e : El (List Int) => e.x) := by
  have hl : es.length = n := by have := h.1; simpa using this
  refine ⟨by rw [List.length_map]; exact hl, h.cap_.1, by have := h.cap_.2; unfold maxLen; exact this, Nat.le_refl _, fun hn => ?_⟩
  have hrow := h
  rcases h.2 with ⟨e, h0⟩ | ⟨g, c', cur, e, k1, k2, _⟩
  · omega
  injection e with e1 e2 e3
  subst e1
  refine ⟨g, 0, rfl, Nat.zero_le _, lt_of_block k2, fun i x hx => ?_⟩
  rw [List.getElem?_map] at hx
  cases he : es[i]? with
  | none => rw [he] at hx; cases hx
  | some f =>
    rw [he] at hx
    obtain rfl : f.x = x := by simpa using hx
    obtain ⟨l, h', hr⟩ := hb f (List.mem_of_getElem? he)
    refine ⟨f.A, f.n, f.c, fun j v hj => ?_, hr.wide⟩
    have hj0 : j = 0 := by
      have := (List.getElem?_eq_some_iff.1 hj).1
      have e9 : (bsS.C f.x f.A f.n f.c).length = 1 := rfl
      omega
    subst hj0
    have hv : Value.slice f.A f.n f.c = v := Option.some.inj hj
    have hi : i < n := by have := (List.getElem?_eq_some_iff.1 he).1; omega
    have hc := World.ownsRow.cellAt hrow i (by omega)
    rw [List.getElem?_map, he] at hc
    have e8 : (⟨g, 0 + i * bsS.s + 0, none⟩ : Addr) = ⟨g, i, none⟩ := by
      have e9 : bsS.s = 1 := rfl
      rw [e9]; simp
    rw [e8, ← hv]
    exact hc
theorem ow_takeB {w : World} {lo hi n cap m g : Nat} {zs : List Int} (h : Ow 5 .u8 w lo hi (some ⟨g, 0, none⟩) n cap zs) (hm : m ≤ n) : Ow 5 .u8 w lo hi (some ⟨g, 0, none⟩) m cap (zs.take m) := by
  have hl := h.len
  rcases h.form with ⟨e, _⟩ | ⟨g', cur, e, h1, h2, h3, h4, h5, h6, h7⟩
  · cases e
  · injection e with e; injection e with e _
    subst e
    refine ⟨⟨by rw [List.length_map, List.length_take]; omega, Or.inr ⟨g, cap, cur, rfl, h1, h3, by omega, h5, by rw [h6, Nat.mul_one], ?_⟩⟩, h.wf.take m, h.hi_, h.2.2.2⟩
    rw [Nat.mul_one, List.map_take, ← h7, List.take_take, Nat.min_eq_left (by omega)]
/-- The frames of the law. -/
def Good (f : List Int) : Prop := ∃ (x : Int) (v : Nat), 1 ≤ v ∧ v ≤ 5 ∧ f = [x, 200, 201, 202, 203].take v
theorem Good.len {f : List Int} (h : Good f) : 1 ≤ f.length ∧ f.length ≤ 5 := by
  obtain ⟨x, v, h1, h2, rfl⟩ := h
  rw [List.length_take]
  simp only [List.length_cons, List.length_nil]
  omega
theorem skip {r : List Int} {a b c d : Int} (hd : d ≠ 78) {m : Nat} (hm : m ≠ 0) : split m (a :: b :: c :: d :: r) = split m r := by
  rw [split_none (by simp) hm (fa_bad (by simpa using hd))]; rfl
theorem sfr_of {f : List Int} {n p : Nat} (h : f.length = n) (hn : n ≤ 200) (hp : (sub (n : Int)).toNat - 4 - n = p) : sfr f = [(n : Int), 0, ((crcm.crc [(n : Int), 0] : Nat) : Int) % 256, 78] ++ f ++ List.replicate p 0 := by
  unfold sfr; rw [h, hp, dlm_yes (by omega)]
theorem dam_skip {f r : List Int} {m : Nat} (h : Good f) (hm : m ≠ 0) : split m ((sfr f).set 3 177 ++ r) = split m r := by
  obtain ⟨x, v, h1, h2, rfl⟩ := h
  have hv : v = 1 ∨ v = 2 ∨ v = 3 ∨ v = 4 ∨ v = 5 := by omega
  rcases hv with rfl | rfl | rfl | rfl | rfl
  · have e : (sfr [x]).set 3 177 ++ r = 1 :: 0 :: (((crcm.crc [1, 0] : Nat) : Int) % 256) :: 177 :: x :: 0 :: 0 :: 0 :: r := by
      have e1 : sfr [x] = [1, 0, ((crcm.crc [1, 0] : Nat) : Int) % 256, 78] ++ [x] ++ [0, 0, 0] := sfr_of (f := [x]) (n := 1) (p := 3) rfl (by omega) (by rw [sub_yes (by omega)]; omega)
      rw [e1]; rfl
    show split m ((sfr [x]).set 3 177 ++ r) = _
    rw [e, skip (by omega) hm, skip (by omega) hm]
  · have e : (sfr [x, 200]).set 3 177 ++ r = 2 :: 0 :: (((crcm.crc [2, 0] : Nat) : Int) % 256) :: 177 :: x :: 200 :: 0 :: 0 :: r := by
      have e1 : sfr [x, 200] = [2, 0, ((crcm.crc [2, 0] : Nat) : Int) % 256, 78] ++ [x, 200] ++ [0, 0] := sfr_of (f := [x, 200]) (n := 2) (p := 2) rfl (by omega) (by rw [sub_yes (by omega)]; omega)
      rw [e1]; rfl
    show split m ((sfr [x, 200]).set 3 177 ++ r) = _
    rw [e, skip (by omega) hm, skip (by omega) hm]
  · have e : (sfr [x, 200, 201]).set 3 177 ++ r = 3 :: 0 :: (((crcm.crc [3, 0] : Nat) : Int) % 256) :: 177 :: x :: 200 :: 201 :: 0 :: r := by
      have e1 : sfr [x, 200, 201] = [3, 0, ((crcm.crc [3, 0] : Nat) : Int) % 256, 78] ++ [x, 200, 201] ++ [0] := sfr_of (f := [x, 200, 201]) (n := 3) (p := 1) rfl (by omega) (by rw [sub_yes (by omega)]; omega)
      rw [e1]; rfl
    show split m ((sfr [x, 200, 201]).set 3 177 ++ r) = _
    rw [e, skip (by omega) hm, skip (by omega) hm]
  · have e : (sfr [x, 200, 201, 202]).set 3 177 ++ r = 4 :: 0 :: (((crcm.crc [4, 0] : Nat) : Int) % 256) :: 177 :: x :: 200 :: 201 :: 202 :: r := by
      have e1 : sfr [x, 200, 201, 202] = [4, 0, ((crcm.crc [4, 0] : Nat) : Int) % 256, 78] ++ [x, 200, 201, 202] ++ [] := sfr_of (f := [x, 200, 201, 202]) (n := 4) (p := 0) rfl (by omega) (by rw [sub_yes (by omega)]; omega)
      rw [e1]; rfl
    show split m ((sfr [x, 200, 201, 202]).set 3 177 ++ r) = _
    rw [e, skip (by omega) hm, skip (by omega) hm]
  · have e : (sfr [x, 200, 201, 202, 203]).set 3 177 ++ r = 5 :: 0 :: (((crcm.crc [5, 0] : Nat) : Int) % 256) :: 177 :: x :: 200 :: 201 :: 202 :: 203 :: 0 :: 0 :: 0 :: r := by
      have e1 : sfr [x, 200, 201, 202, 203] = [5, 0, ((crcm.crc [5, 0] : Nat) : Int) % 256, 78] ++ [x, 200, 201, 202, 203] ++ [0, 0, 0] := sfr_of (f := [x, 200, 201, 202, 203]) (n := 5) (p := 3) rfl (by omega) (by rw [sub_yes (by omega)]; omega)
      rw [e1]; rfl
    show split m ((sfr [x, 200, 201, 202, 203]).set 3 177 ++ r) = _
    rw [e, skip (by omega) hm, skip (by omega) hm, skip (by omega) hm]
theorem sfr_fourth {f : List Int} (h : f.length ≤ 200) : (sfr f)[3]? = some 78 := by unfold sfr; rw [dlm_yes (by omega)]; rfl
/-- One damaged delimiter: the other frames are found. -/
theorem dam {l : List (List Int)} {k j : Nat} (hl : l.length ≤ 8) (hg : ∀ f ∈ l, Good f) (hk : k < l.length) (hj : (j : Int) = sumS (lens (l.take k))) : (agg l)[j + 3]? = some 78 ∧ split 8 ((agg l).set (j + 3) 177) = l.eraseIdx k ∧ j + 4 ≤ (agg l).length := by
  have h200 : ∀ f ∈ l, f.length ≤ 200 := fun f hf => by have := (hg f hf).len; omega
  have e1 : l = l.take k ++ l[k] :: l.drop (k + 1) := by rw [← List.drop_eq_getElem_cons hk]; exact (List.take_append_drop k l).symm
  have hk2 : l[k] ∈ l := List.getElem_mem hk
  have hlen : ((l.take k).flatMap sfr).length = j := by have h1 := flat_len (l := l.take k) (fun f hf => h200 f (List.mem_of_mem_take hf)); unfold lens at hj; omega
  have hsl := sfr_len (h200 _ hk2)
  have hsub := sub_nat (h200 _ hk2)
  have e2 : agg l = (l.take k).flatMap sfr ++ (sfr l[k] ++ (l.drop (k + 1)).flatMap sfr) := by
    rw [agg_yes hl h200]
    conv => lhs; rw [e1]
    rw [List.flatMap_append, List.flatMap_cons]
  refine ⟨?_, ?_, ?_⟩
  · rw [e2, List.getElem?_append_right (by omega), hlen, Nat.add_sub_cancel_left, List.getElem?_append_left (by omega)]
    exact sfr_fourth (h200 _ hk2)
  · have e3 : (agg l).set (j + 3) 177 = (l.take k).flatMap sfr ++ ((sfr l[k]).set 3 177 ++ (l.drop (k + 1)).flatMap sfr) := by
      rw [e2, List.set_append_right _ _ (by omega), hlen, Nat.add_sub_cancel_left, List.set_append_left _ _ (by omega)]
    have ht : (l.take k).length = k := by rw [List.length_take]; omega
    rw [e3, split_flat (fun f hf => h200 f (List.mem_of_mem_take hf)) (by omega), dam_skip (hg _ hk2) (by omega)]
    have h5 := split_flat (l := l.drop (k + 1)) (m := 8 - (l.take k).length) (r := []) (fun f hf => h200 f (List.mem_of_mem_drop hf)) (by rw [List.length_drop]; omega)
    rw [List.append_nil, split_end (.inl rfl), List.append_nil] at h5
    rw [h5, List.eraseIdx_eq_take_drop_succ]
  · rw [e2, List.length_append, List.length_append]; omega
theorem er_skip {α : Type} {l : List α} {i k : Nat} {x : α} (h : l[i]? = some x) (hik : i ≠ k) : (l.take (i + 1)).eraseIdx k = (l.take i).eraseIdx k ++ [x] := by
  have hi : i < l.length := (List.getElem?_eq_some_iff.1 h).1
  rw [take_snocB h]
  rcases Nat.lt_or_ge k i with h1 | h1
  · rw [List.eraseIdx_append_of_lt_length (by rw [List.length_take]; omega)]
  · rw [List.eraseIdx_of_length_le (by simp; omega), List.eraseIdx_of_length_le (by rw [List.length_take]; omega)]
theorem er_same {α : Type} {l : List α} {k : Nat} : (l.take (k + 1)).eraseIdx k = (l.take k).eraseIdx k := by
  rw [List.eraseIdx_of_length_le (l := l.take k) (by rw [List.length_take]; omega), List.eraseIdx_eq_take_drop_succ, List.take_take, Nat.min_eq_left (by omega), List.drop_eq_nil_of_le (by rw [List.length_take]; omega), List.append_nil]
theorem er_map {α β : Type} (f : α → β) : ∀ (l : List α) (k : Nat), (l.map f).eraseIdx k = (l.eraseIdx k).map f
  | [], _ => rfl
  | _ :: _, 0 => rfl
  | a :: r, k + 1 => by rw [List.map_cons, List.eraseIdx_cons_succ, List.eraseIdx_cons_succ, List.map_cons, er_map f r k]
end Go.Proofs.Ythgbmcdfbinpkaa.ag
