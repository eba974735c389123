/- Merged texts of this seat. Vit1: The distances of symbols and steps, the number of bits, the constants, program and specification. Condition: none. | Tab: The table of survivors: a map keyed by a step and a state, told key by key; the operations on it. Condition: none. | Vit3: A step of the decoder. Condition: at most 2000 steps. | Vit4: The bits of the best path, read from the table of survivors. Condition: at most 1000 bits. | Vit5: The decoder. Condition: lengths up to 2^26. | Vit6: A step of the specification's backtracking. Condition: none. | Cst: The specification's table of costs: a slice of rows of four. Condition: at most 100000 rows. | Vit7: The specification's table of costs is built. Condition: at most 1000 bits. | Vit8: The specification's decoder. Condition: lengths up to 2^26. | Rx1: decodePayload of the program. Condition: at most 2^20 symbols. -/
import Derived.Maps.OwnSet
import Derived.Deep.RegionHeld3
import Derived.Deep.RegionWith
import Derived.Test.YtdelpepepbkjmaaGreatDoorG3
import Derived.Test.YtdelpepepbkjmaaGreatDoorG4
import Derived.Test.YtdelpepepbkjmaaGreatDoorG5
section
namespace Go.Proofs.YtdelpepepbkjmaaGreatDoor.vts
open Go.RowKit sl harn bm rng cvm cvs vit

theorem sd_yes {b x : Int} (h : x = b ∨ x = 2) : sd b x = 0 := if_pos h
theorem sd_no {b x : Int} (h : ¬ x = b) (h2 : ¬ x = 2) : sd b x = 1 := if_neg (by intro g; rcases g with g | g; exact h g; exact h2 g)
theorem implSd (b x : Int) (w : World) :
    Calls Tryz.prog 136 #[.int .i64 b, .int .i64 x] w fun e w' => e = .returned (.int .i64 (sd b x)) ∧ w = w' := by
  by_cases h : x = b
  · subst h
    have HE := Lib.hid (sd_yes (b := x) (x := x) (Or.inl rfl))
    go_enter Tryz.func136, Tryz.ntmps136
    go_wp2
    go_ret
    exact ⟨ret_num HE.out.symm, rfl⟩
  · have hne : (x == b) = false := by simpa using h
    by_cases h2 : x = 2
    · subst h2
      have HE := Lib.hid (sd_yes (b := b) (x := 2) (Or.inr rfl))
      clear h
      go_enter Tryz.func136, Tryz.ntmps136
      go_wp2
      go_ret
      exact ⟨ret_num HE.out.symm, rfl⟩
    · have hn2 : (x == 2) = false := by simpa using h2
      have HE := Lib.hid (sd_no h h2)
      clear h h2
      go_enter Tryz.func136, Tryz.ntmps136
      go_wp2
      go_ret
      exact ⟨ret_num HE.out.symm, rfl⟩
theorem bd_parts {s b x y p q : Int} (h : outp s b = (p, q)) : bd s b x y = sd p x + sd q y := by unfold bd; rw [h]
theorem implBd (s b x y : Int) (w : World) :
    Calls Tryz.prog 134 #[.int .i64 s, .int .i64 b, .int .i64 x, .int .i64 y] w fun e w' => e = .returned (.int .i64 (bd s b x y)) ∧ w = w' := by
  obtain ⟨p, q, hpq⟩ : ∃ p q, outp s b = (p, q) := ⟨_, _, rfl⟩
  have HO := Lib.hid hpq
  have HE := Lib.hid (bd_parts (x := x) (y := y) hpq)
  clear hpq
  go_enter Tryz.func134, Tryz.ntmps134
  go_wp2_with fail
  (with_reducible refine (implOut s b _).mono ?_)
  intro e w1 h1
  obtain ⟨rfl, rfl⟩ := TwoPost.parts HO.out h1
  clear h1
  go_wp2_with fail
  (with_reducible refine (implSd p x _).mono ?_)
  rintro e w1 ⟨rfl, rfl⟩
  go_wp2_with fail
  (with_reducible refine (implSd q y _).mono ?_)
  rintro e w1 ⟨rfl, rfl⟩
  have h1 := sd_in p x
  have h2 := sd_in q y
  obtain ⟨u, hu⟩ : ∃ u, sd p x = u := ⟨_, rfl⟩
  obtain ⟨v, hv⟩ : ∃ v, sd q y = v := ⟨_, rfl⟩
  rw [hu] at HE h1 ⊢
  rw [hv] at HE h2 ⊢
  clear hu hv
  go_wp2_with fail
  go_ret
  exact ⟨ret_num HE.out.symm, rfl⟩
set_option maxHeartbeats 1000000 in
theorem specBd (s b x y : Int) (w : World) :
    Calls Tryz.prog 116 #[.int .i64 s, .int .i64 b, .int .i64 x, .int .i64 y] w fun e w' => e = .returned (.int .i64 (bd s b x y)) ∧ w = w' := by
  obtain ⟨p, q, hpq⟩ : ∃ p q, outp s b = (p, q) := ⟨_, _, rfl⟩
  have HO := Lib.hid hpq
  have HE := Lib.hid (bd_parts (x := x) (y := y) hpq)
  clear hpq
  have hx : (x = 2 ∨ p = x ∧ (x != 2) = true ∧ (x == 2) = false ∧ ¬ x = 2) ∨ ((x != 2) = true ∧ (x == 2) = false ∧ ¬ x = 2) ∧ (x != p) = true ∧ ¬ x = p := by
    by_cases h : x = 2
    · exact Or.inl (Or.inl h)
    · by_cases h2 : x = p
      · exact Or.inl (Or.inr ⟨h2.symm, by simpa using h, by simpa using h, h⟩)
      · exact Or.inr ⟨⟨by simpa using h, by simpa using h, h⟩, by simpa using h2, h2⟩
  have hy : (y = 2 ∨ q = y ∧ (y != 2) = true ∧ (y == 2) = false ∧ ¬ y = 2) ∨ ((y != 2) = true ∧ (y == 2) = false ∧ ¬ y = 2) ∧ (y != q) = true ∧ ¬ y = q := by
    by_cases h : y = 2
    · exact Or.inl (Or.inl h)
    · by_cases h2 : y = q
      · exact Or.inl (Or.inr ⟨h2.symm, by simpa using h, by simpa using h, h⟩)
      · exact Or.inr ⟨⟨by simpa using h, by simpa using h, h⟩, by simpa using h2, h2⟩
  rcases hx with (rfl | ⟨rfl, h1, h1', n1⟩) | ⟨⟨h1, h1', n1⟩, h2, n2⟩ <;> rcases hy with (rfl | ⟨rfl, h3, h3', n3⟩) | ⟨⟨h3, h3', n3⟩, h4, n4⟩
  all_goals
   (first
      | rw [sd_yes (b := p) (x := 2) (Or.inr rfl)] at HE
      | rw [sd_yes (b := p) (x := p) (Or.inl rfl)] at HE
      | rw [sd_no n2 n1] at HE
    first
      | rw [sd_yes (b := q) (x := 2) (Or.inr rfl)] at HE
      | rw [sd_yes (b := q) (x := q) (Or.inl rfl)] at HE
      | rw [sd_no n4 n3] at HE
    (try clear n1)
    (try clear n2)
    (try clear n3)
    (try clear n4)
    go_enter Tryz.func116, Tryz.ntmps116
    go_wp2_with fail
    (with_reducible refine (specOut s b _).mono ?_)
    intro e w1 h1
    obtain ⟨rfl, rfl⟩ := TwoPost.parts HO.out h1
    clear h1
    go_wp2_with fail
    go_ret
    exact ⟨ret_num (by rw [HE.out]; rfl), rfl⟩)
theorem inl_half {c : Int} (hw : (Lit.int .i64 c).wf = true) (h : ¬ c < 0) : ∃ v : Int, c / 2 = v ∧ c.tdiv 2 = v ∧ 0 ≤ v ∧ v ≤ 4611686018427387903 ∧ (c = 2 * v ∨ c = 2 * v + 1) := by
  have := bounds_i64 hw
  exact ⟨c / 2, rfl, Int.tdiv_eq_ediv_of_nonneg (by omega), by omega, by omega, by omega⟩
theorem half_neg {c : Int} (hw : (Lit.int .i64 c).wf = true) (h : c < 0) : ∃ v : Int, c.tdiv 2 = v ∧ -4611686018427387904 ≤ v ∧ v ≤ 0 := by
  have := bounds_i64 hw
  have e2 : c.tdiv 2 = -((-c) / 2) := by
    have := Int.neg_tdiv (-c) 2
    rw [Int.neg_neg] at this
    rw [this, Int.tdiv_eq_ediv_of_nonneg (by omega)]
  exact ⟨_, e2, by omega, by omega⟩
theorem implInl (c : Int) (hw : (Lit.int .i64 c).wf = true) (w : World) :
    Calls Tryz.prog 127 #[.int .i64 c] w fun e w' => e = .returned (.int .i64 (inl c)) ∧ w = w' := by
  by_cases h : c < 0
  · obtain ⟨v, hv, h1, h2⟩ := half_neg hw h
    have HE := Lib.hid (inl_no (c := c) (by omega))
    clear hw h
    go_enter Tryz.func127, Tryz.ntmps127
    go_wp2_with fail
    (with_reducible refine (inRange_no (v - 2) 0 1000 (by omega) _).mono ?_)
    rintro e w1 ⟨rfl, rfl⟩
    go_wp2_with fail
    go_ret
    exact ⟨ret_num HE.out.symm, rfl⟩
  · obtain ⟨v, hv0, hv, h1, h2, h3⟩ := inl_half hw h
    have HC := Lib.hid h3
    clear hw h h3
    by_cases hr : 0 ≤ v - 2 ∧ v - 2 ≤ 1000
    · have HR := Lib.hid hr
      have HN := Lib.hid (enl_yes (show 0 ≤ v - 2 ∧ v - 2 ≤ 1000000000000 by omega))
      by_cases he : 2 * v = c
      · have HE := Lib.hid (show v - 2 = inl c by rw [inl_yes (by omega)]; omega)
        have hp : 2 * (v - 2 + 2) = c := by omega
        clear hr
        go_enter Tryz.func127, Tryz.ntmps127
        go_wp2_with fail
        (with_reducible refine (inRange_yes (v - 2) 0 1000 HR.out _).mono ?_)
        rintro e w1 ⟨rfl, rfl⟩
        go_wp2_with fail
        (with_reducible refine (implEnl (v - 2) _).mono ?_)
        rw [HN.out, hp]
        rintro e w1 ⟨rfl, rfl⟩
        go_wp2_with fail
        go_ret
        exact ⟨ret_num HE.out, rfl⟩
      · have HE := Lib.hid (inl_no (c := c) (by have := HC.out; omega))
        have hp : (2 * (v - 2 + 2) == c) = false := by
          have : ¬ 2 * (v - 2 + 2) = c := by omega
          simpa using this
        clear hr he
        obtain ⟨u, hu⟩ : ∃ u, 2 * (v - 2 + 2) = u := ⟨_, rfl⟩
        rw [hu] at hp HN
        clear hu
        go_enter Tryz.func127, Tryz.ntmps127
        go_wp2_with fail
        (with_reducible refine (inRange_yes (v - 2) 0 1000 HR.out _).mono ?_)
        rintro e w1 ⟨rfl, rfl⟩
        go_wp2_with fail
        (with_reducible refine (implEnl (v - 2) _).mono ?_)
        rw [HN.out]
        rintro e w1 ⟨rfl, rfl⟩
        go_wp2_with fail
        go_ret
        exact ⟨ret_num HE.out.symm, rfl⟩
    · have HR := Lib.hid hr
      have HE := Lib.hid (inl_no (c := c) (by have := HC.out; omega))
      clear hr
      go_enter Tryz.func127, Tryz.ntmps127
      go_wp2_with fail
      (with_reducible refine (inRange_no (v - 2) 0 1000 HR.out _).mono ?_)
      rintro e w1 ⟨rfl, rfl⟩
      go_wp2_with fail
      go_ret
      exact ⟨ret_num HE.out.symm, rfl⟩
theorem specInl (c : Int) (hw : (Lit.int .i64 c).wf = true) (w : World) :
    Calls Tryz.prog 77 #[.int .i64 c] w fun e w' => e = .returned (.int .i64 (inl c)) ∧ w = w' := by
  by_cases h : c < 0
  · obtain ⟨v, hv, h1, h2⟩ := half_neg hw h
    have HE := Lib.hid (inl_no (c := c) (by omega))
    clear hw
    go_enter Tryz.func77, Tryz.ntmps77
    go_wp2_with fail
    go_ret
    exact ⟨ret_num HE.out.symm, rfl⟩
  · obtain ⟨v, hv0, hv, h1, h2, h3⟩ := inl_half hw h
    have HC := Lib.hid h3
    clear hw
    have h0 : 0 ≤ c := by omega
    rcases h3 with h3 | h3
    · have hm : c % 2 = 0 := by omega
      have hm2 : c.tmod 2 = 0 := by rw [Int.tmod_eq_emod_of_nonneg h0]; exact hm
      by_cases hr : 0 ≤ v - 2 ∧ v - 2 ≤ 1000
      · have HR := Lib.hid hr
        have HE := Lib.hid (show v - 2 = inl c by rw [inl_yes (by omega)]; omega)
        clear hr h3
        go_enter Tryz.func77, Tryz.ntmps77
        go_wp2_with fail
        (with_reducible refine (l1In_yes (v - 2) 0 1000 HR.out _).mono ?_)
        rintro e w1 ⟨rfl, rfl⟩
        go_wp2_with fail
        go_ret
        exact ⟨ret_num HE.out, rfl⟩
      · have HR := Lib.hid hr
        have HE := Lib.hid (inl_no (c := c) (by omega))
        clear hr h3
        go_enter Tryz.func77, Tryz.ntmps77
        go_wp2_with fail
        (with_reducible refine (l1In_no (v - 2) 0 1000 HR.out _).mono ?_)
        rintro e w1 ⟨rfl, rfl⟩
        go_wp2_with fail
        go_ret
        exact ⟨ret_num HE.out.symm, rfl⟩
    · have hm : c % 2 = 1 := by omega
      have hm2 : c.tmod 2 = 1 := by rw [Int.tmod_eq_emod_of_nonneg h0]; exact hm
      have HE := Lib.hid (inl_no (c := c) (by omega))
      clear h3
      go_enter Tryz.func77, Tryz.ntmps77
      go_wp2_with fail
      go_ret
      exact ⟨ret_num HE.out.symm, rfl⟩
def mind (c : Int) : Int := if 1 ≤ c ∧ c ≤ 1000 then 5 else 0
end Go.Proofs.YtdelpepepbkjmaaGreatDoor.vts
end

section
namespace Go.Proofs.YtdelpepepbkjmaaGreatDoor.tab
open Go.RowKit Go.Maps sl harn bm vit
set_option linter.unusedVariables false
set_option maxRecDepth 1000000

theorem rowNode : (139 : TypeId) < Tryz.prog.types.size := of_decide_eq_true (by kernel_rfl)
theorem wideNode : (match Tryz.prog.underlying 139 with | some (.array _ _) | some (.struct _) => true | _ => false) = true := by kernel_rfl
theorem laidHere : laidOutB Tryz.prog = true := by kernel_rfl

theorem lawNode : Keyed Tryz.prog 139 := Keyed.of_law (deep_law_laid laidHere (m := 3) (by omega) rowNode (by kernel_rfl) wideNode)
theorem zeroSurv (w : World) : (zeroValue 141).run Tryz.prog w = .ok (.agg #[.int .i64 0, .int .i64 0, .int .i64 0]) w := by kernel_rfl
#print axioms lawNode
/-- A key. -/
def node (j t : Int) : Value := .agg #[.int .i64 j, .int .i64 t]
noncomputable def kl (j t : Int) : Lit := (keyOf Tryz.prog 139 (node j t)).getD (.bool false)
theorem sizeTypes : ∃ n, Tryz.prog.types.size = n + 1 := ⟨Tryz.prog.types.size - 1, (Nat.sub_add_cancel (show 1 ≤ Tryz.prog.types.size from of_decide_eq_true (by kernel_rfl))).symm⟩
theorem keyNode : Tryz.prog.keyType 139 = true := by kernel_rfl
theorem cellsNode : Tryz.prog.cellsOf 139 = 2 := by kernel_rfl
theorem cellsInt : Tryz.prog.cellsOf 3 = 1 := by kernel_rfl
theorem key_gen {P : Program} {k i : TypeId} {f0 f1 : Field} {n : Nat} (hk : P.underlying k = some (.struct #[f0, f1])) (hkt : P.keyType k = true) (hc : P.cellsOf k = 2) (hn : P.types.size = n + 1)
    (h0 : (f0.name != "_") = true) (h1 : (f1.name != "_") = true) (ho0 : f0.offset = 0) (ho1 : f1.offset = 1) (ht0 : f0.type = i) (ht1 : f1.type = i) (hi : P.underlying i = some (.int .i64)) (hci : P.cellsOf i = 1)
    {j t : Int} (hj : (Lit.int .i64 j).wf = true) (ht : (Lit.int .i64 t).wf = true) : (keyOf P k (.agg #[.int .i64 j, .int .i64 t])).isSome = true := by
  have hf : Value.formed P k (.agg #[.int .i64 j, .int .i64 t]) = true := by simp [Value.formed, hk, hc]
  have hl : P.keyLits (n + 1 + 1) k [.int .i64 j, .int .i64 t] = some [.int .i64 j, .int .i64 t] := by
    unfold Program.keyLits
    rw [hk]
    simp [hc, h0, h1, ho0, ho1, ht0, ht1, hci, Program.keyLits, hi, hj, ht, List.mapM_cons]
  unfold keyOf
  rw [hk]
  simp [hkt, hf, hn, Value.cells, hl]
theorem key_ok {j t : Int} (hj : (Lit.int .i64 j).wf = true) (ht : (Lit.int .i64 t).wf = true) : keyOf Tryz.prog 139 (node j t) = some (kl j t) := by
  obtain ⟨n, hn⟩ := sizeTypes
  have := key_gen Tryz.underlying139 keyNode cellsNode hn (by decide) (by decide) rfl rfl rfl rfl Tryz.underlying3 cellsInt hj ht
  obtain ⟨l, hl⟩ := Option.isSome_iff_exists.1 this
  unfold kl node
  rw [hl]; rfl
/-- The keys that are looked at. -/
def Nd (j t : Int) : Prop := (0 ≤ j ∧ j ≤ 10000) ∧ (0 ≤ t ∧ t ≤ 3)
theorem Nd.wj {j t : Int} (h : Nd j t) : (Lit.int .i64 j).wf = true := WalkArith.wf_i64 (by have := h.1; omega)
theorem Nd.wt {j t : Int} (h : Nd j t) : (Lit.int .i64 t).wf = true := WalkArith.wf_i64 (by have := h.2; omega)
theorem Nd.key {j t : Int} (h : Nd j t) : keyOf Tryz.prog 139 (node j t) = some (kl j t) := key_ok h.wj h.wt
theorem kl_inj {j t j' t' : Int} (h : Nd j t) (h' : Nd j' t') (e : kl j t = kl j' t') : j = j' ∧ t = t' := by
  have := lawNode.inj h.key (by rw [e]; exact h'.key)
  unfold node at this
  injection this with this
  simpa using this
theorem Nd.lit {j t : Int} (h : Nd j t) : WideAt.IsKeyLit (kl j t) := lawNode.key h.key
/-- An element. -/
def dat (d i s : Int) : DataW Unit := .agg [.lit (.int .i64 d), .lit (.int .i64 i), .lit (.int .i64 s)]
def ev (d i s : Int) : Value := .agg #[.int .i64 d, .int .i64 i, .int .i64 s]
def el : Value → Option (DataW Unit × List MemPlace)
  | .agg cs => match cs.toList with
    | [.int .i64 d, .int .i64 i, .int .i64 s] => some (dat d i s, [])
    | _ => none
  | _ => none
theorem el_mk (d i s : Int) : el (ev d i s) = some (dat d i s, []) := rfl
theorem el_inv {v : Value} {d i s : Int} {ps : List MemPlace} (h : el v = some (dat d i s, ps)) : v = ev d i s := by
  unfold el at h
  split at h
  · rename_i cs
    split at h
    · rename_i d' i' s' hcs
      simp only [Option.some.injEq, Prod.mk.injEq, dat, DataW.agg.injEq, List.cons.injEq, DataW.lit.injEq, Lit.int.injEq] at h
      obtain ⟨⟨⟨_, rfl⟩, ⟨_, rfl⟩, ⟨_, rfl⟩, _⟩, _⟩ := h
      unfold ev
      rw [← hcs]
    · cases h
  · cases h
abbrev Ent := Option (Int × Int × Int)
def Says (D : DataW Unit) (j t : Int) : Ent → Prop
  | none => Maps.has D (kl j t) = false
  | some (d, i, s) => Maps.has D (kl j t) = true ∧ ∀ z, D.atKey (kl j t) z = dat d i s
/-- Block B is a map of at most u entries that holds M at the keys that are looked at. -/
def Tab (w : World) (B u : Nat) (M : Int → Int → Ent) : Prop := ∃ n D, n ≤ u ∧ w.ownsMap Tryz.prog 139 el B n D ∧ ∀ j t, Nd j t → Says D j t (M j t)
section
variable {w w' : World} {B u : Nat} {M M' : Int → Int → Ent}
theorem Tab.kept {row : Option Nat} (h : Tab w B u M) (hg : w.grownBy w' row) (hne : some B ≠ row) : Tab w' B u M := by
  obtain ⟨n, D, h1, h2, h3⟩ := h
  exact ⟨n, D, h1, h2.kept hg hne, h3⟩
theorem Tab.alloc (h : Tab w B u M) (o : Obj) : Tab (w.alloc o) B u M := h.kept (World.grownBy_alloc w o none) (by simp)
theorem Tab.drew (h : Tab w B u M) : Tab w.drew B u M := h
theorem Tab.lt (h : Tab w B u M) : B < w.heap.size := by
  obtain ⟨n, D, h1, h2, h3⟩ := h
  exact h2.lt
theorem Tab.congr (h : Tab w B u M) (he : ∀ j t, Nd j t → M j t = M' j t) : Tab w B u M' := by
  obtain ⟨n, D, h1, h2, h3⟩ := h
  exact ⟨n, D, h1, h2, fun j t hn => by rw [← he j t hn]; exact h3 j t hn⟩
theorem Tab.mono (h : Tab w B u M) {u' : Nat} (hu : u ≤ u') : Tab w B u' M := by
  obtain ⟨n, D, h1, h2, h3⟩ := h
  exact ⟨n, D, by omega, h2, h3⟩
theorem Tab.block (h : Tab w B u M) (hs : w.heap.size ≤ w'.heap.size) (hb : w'.heap[B]? = w.heap[B]?) : Tab w' B u M := by
  obtain ⟨n, D, h1, ⟨es, clock, g1, g2⟩, h3⟩ := h
  exact ⟨n, D, h1, ⟨es, clock, by rw [hb]; exact g1, g2⟩, h3⟩
theorem Tab.made (w : World) : Tab (w.alloc (.map #[] 0)) w.heap.size 0 (fun _ _ => none) :=
  ⟨0, .map [], Nat.le_refl _, World.ownsMap_made w _ _ _, fun _ _ _ => rfl⟩
def upd (M : Int → Int → Ent) (j t d i s : Int) : Int → Int → Ent := fun j' t' => if j' = j ∧ t' = t then some (d, i, s) else M j' t'
theorem Tab.store (h : Tab w B u M) (hu : u < 1000000) {j t : Int} (hn : Nd j t) (d i s : Int) :
    ∃ w', (Instr.mapUpdate 142 (.map (some B)) (node j t) (ev d i s)).run Tryz.prog w = .ok () w' ∧ Tab w' B (u + 1) (upd M j t d i s) ∧ w.grownBy w' (some B) := by
  obtain ⟨n, D, h1, h2, h3⟩ := h
  obtain ⟨w', g1, g2, g3⟩ := h2.update (val := ev d i s) lawNode Tryz.underlying142 (by unfold maxLen; omega) hn.key (el_mk d i s)
  refine ⟨w', g1, ⟨n + 1, _, by omega, g2, fun j' t' hn' => ?_⟩, g3⟩
  unfold upd
  split
  · rename_i e
    obtain ⟨rfl, rfl⟩ := e
    exact ⟨Maps.has_put_same h2.isMap hn.lit _, fun z => Maps.atKey_put_same h2.isMap hn.lit _ z⟩
  · rename_i e
    have hne : kl j' t' ≠ kl j t := fun g => e (kl_inj hn' hn g)
    have := h3 j' t' hn'
    cases hM : M j' t' with
    | none => rw [hM] at this; show Maps.has _ _ = false; rw [Maps.has_put_other hne]; exact this
    | some x =>
      obtain ⟨d', i', s'⟩ := x
      rw [hM] at this
      exact ⟨by rw [Maps.has_put_other hne]; exact this.1, fun z => by rw [Maps.atKey_put_other hne]; exact this.2 z⟩
theorem Tab.none_ok (h : Tab w B u M) {j t : Int} (hn : Nd j t) (hM : M j t = none) :
    (Instr.lookup 142 (.map (some B)) (node j t) true).run Tryz.prog w = .ok (.tuple #[ev 0 0 0, .bool false]) w := by
  obtain ⟨n, D, h1, h2, h3⟩ := h
  have h4 := h3 j t hn
  rw [hM] at h4
  obtain ⟨v, ps, g1, g2⟩ := h2.look_ok lawNode Tryz.underlying142 (zeroSurv w) (el_mk 0 0 0) hn.key
  rw [Maps.atKey_of_not_has h4] at g2
  rw [g1, show Maps.has D (kl j t) = false from h4, el_inv g2]
theorem Tab.some_ok (h : Tab w B u M) {j t d i s : Int} (hn : Nd j t) (hM : M j t = some (d, i, s)) :
    (Instr.lookup 142 (.map (some B)) (node j t) true).run Tryz.prog w = .ok (.tuple #[ev d i s, .bool true]) w := by
  obtain ⟨n, D, h1, h2, h3⟩ := h
  have h4 := h3 j t hn
  rw [hM] at h4
  obtain ⟨v, ps, g1, g2⟩ := h2.look_ok lawNode Tryz.underlying142 (zeroSurv w) (el_mk 0 0 0) hn.key
  rw [h4.2] at g2
  rw [g1, show Maps.has D (kl j t) = true from h4.1, el_inv g2]
theorem Tab.some_at (h : Tab w B u M) {j t d i s : Int} (hn : Nd j t) (hM : M j t = some (d, i, s)) :
    (Instr.lookup 142 (.map (some B)) (node j t) false).run Tryz.prog w = .ok (ev d i s) w := by
  obtain ⟨n, D, h1, h2, h3⟩ := h
  have h4 := h3 j t hn
  rw [hM] at h4
  obtain ⟨v, ps, g1, g2⟩ := h2.lookup lawNode Tryz.underlying142 (zeroSurv w) (el_mk 0 0 0) hn.key
  rw [h4.2] at g2
  rw [g1, el_inv g2]
theorem Tab.no (h : Tab w B u M) {j t : Int} (hn : Nd j t) (hM : M j t = none) :
    (Instr.lookup 142 (.map (some B)) (.agg #[.int .i64 j, .int .i64 t]) true).run Tryz.prog w = .ok (.tuple #[.agg #[.int .i64 0, .int .i64 0, .int .i64 0], .bool false]) w := h.none_ok hn hM
theorem Tab.yes (h : Tab w B u M) {j t d i s : Int} (hn : Nd j t) (hM : M j t = some (d, i, s)) :
    (Instr.lookup 142 (.map (some B)) (.agg #[.int .i64 j, .int .i64 t]) true).run Tryz.prog w = .ok (.tuple #[.agg #[.int .i64 d, .int .i64 i, .int .i64 s], .bool true]) w := h.some_ok hn hM
theorem Tab.at_ (h : Tab w B u M) {j t d i s : Int} (hn : Nd j t) (hM : M j t = some (d, i, s)) :
    (Instr.lookup 142 (.map (some B)) (.agg #[.int .i64 j, .int .i64 t]) false).run Tryz.prog w = .ok (.agg #[.int .i64 d, .int .i64 i, .int .i64 s]) w := h.some_at hn hM
theorem Tab.put (h : Tab w B u M) (hu : u < 1000000) {j t : Int} (hn : Nd j t) (d i s : Int) :
    ∃ w', (Instr.mapUpdate 142 (.map (some B)) (.agg #[.int .i64 j, .int .i64 t]) (.agg #[.int .i64 d, .int .i64 i, .int .i64 s])).run Tryz.prog w = .ok () w' ∧ Tab w' B (u + 1) (upd M j t d i s) ∧ w.grownBy w' (some B) := h.store hu hn d i s
end
/-- A look-up at the operation, by its run. -/
theorem wpList_lookup_run {P : Program} (w : World) {ops : Array Oper} {rest : List Oper} {o : Oper} {a : Act} {Q : Exit → Act → World → Prop} (hg : o.guard = none) (m x : Operand) (t : TypeId) (c : Bool) (hop : o.op = Op.lookup t m x c)
    {mv kv v : Value} (hrun : (Instr.lookup t mv kv c).run P w = .ok v w) (hm : a.eval m = mv) (hx : a.eval x = kv) (hK : wpList P ops Q rest (a.put o.dst v) w) : wpList P ops Q (o :: rest) a w := by
  refine wpList_plain hg fun K' hK' => ?_
  unfold Oper.wp
  simp [execOp, hop, hm, hx, hrun, Result.andThen]
  exact hK' _ _ hK
/-- A store into a map at the operation, by its run. -/
theorem wpList_store_run {P : Program} (w : World) {ops : Array Oper} {rest : List Oper} {o : Oper} {a : Act} {Q : Exit → Act → World → Prop} (hg : o.guard = none) (m x y : Operand) (t : TypeId) (hop : o.op = Op.mapUpdate t m x y)
    {mv kv v : Value} {w' : World} (hrun : (Instr.mapUpdate t mv kv v).run P w = .ok () w') (hm : a.eval m = mv) (hx : a.eval x = kv) (hy : a.eval y = v) (hK : wpList P ops Q rest (a.put o.dst undef) w') : wpList P ops Q (o :: rest) a w := by
  refine wpList_plain hg fun K' hK' => ?_
  unfold Oper.wp
  simp [execOp, hop, hm, hx, hy, hrun, Result.andThen]
  exact hK' _ _ hK
theorem wpList_insert_run {P : Program} (w : World) {ops : Array Oper} {rest : List Oper} {o : Oper} {a : Act} {Q : Exit → Act → World → Prop} (hg : o.guard = none) (m x y : Operand) (t : TypeId) (hop : o.op = Op.insert t m x y)
    {mv kv v : Value} {w' : World} (hrun : (Instr.mapUpdate t mv kv v).run P w = .ok () w') (hm : a.eval m = mv) (hx : a.eval x = kv) (hy : a.eval y = v) (hK : wpList P ops Q rest (a.put o.dst undef) w') : wpList P ops Q (o :: rest) a w := by
  refine wpList_plain hg fun K' hK' => ?_
  unfold Oper.wp
  simp [execOp, hop, hm, hx, hy, hrun, Result.andThen]
  exact hK' _ _ hK
theorem wpList_put (w : World) {ops : Array Oper} {rest : List Oper} {o : Oper} {a : Act} {Q : Exit → Act → World → Prop} (hg : o.guard = none) (m x y : Operand) (hop : o.op = Op.mapUpdate 142 m x y)
    {B u : Nat} {M : Int → Int → Ent} (hT : Tab w B u M) (hu : u < 1000000) {j t d i s : Int} (hn : Nd j t) (hm : a.eval m = .map (some B)) (hx : a.eval x = .agg #[.int .i64 j, .int .i64 t]) (hy : a.eval y = .agg #[.int .i64 d, .int .i64 i, .int .i64 s])
    (hK : ∀ w', Tab w' B (u + 1) (upd M j t d i s) → w.grownBy w' (some B) → wpList Tryz.prog ops Q rest (a.put o.dst undef) w') : wpList Tryz.prog ops Q (o :: rest) a w := by
  obtain ⟨w', h1, h2, h3⟩ := hT.put hu hn d i s
  exact wpList_store_run w hg m x y _ hop h1 hm hx hy (hK w' h2 h3)
theorem wpList_ins (w : World) {ops : Array Oper} {rest : List Oper} {o : Oper} {a : Act} {Q : Exit → Act → World → Prop} (hg : o.guard = none) (m x y : Operand) (hop : o.op = Op.insert 142 m x y)
    {B u : Nat} {M : Int → Int → Ent} (hT : Tab w B u M) (hu : u < 1000000) {j t d i s : Int} (hn : Nd j t) (hm : a.eval m = .map (some B)) (hx : a.eval x = .agg #[.int .i64 j, .int .i64 t]) (hy : a.eval y = .agg #[.int .i64 d, .int .i64 i, .int .i64 s])
    (hK : ∀ w', Tab w' B (u + 1) (upd M j t d i s) → w.grownBy w' (some B) → wpList Tryz.prog ops Q rest (a.put o.dst undef) w') : wpList Tryz.prog ops Q (o :: rest) a w := by
  obtain ⟨w', h1, h2, h3⟩ := hT.put hu hn d i s
  exact wpList_insert_run w hg m x y _ hop h1 hm hx hy (hK w' h2 h3)
/-- The table of the decoder: after k whole steps, the bits below b of the next one, and bit b from the states below m. -/
def ent (c i s : Int) : Ent := if c < 0 then none else some (c, i, s)
def lv (b m t : Int) : Int := if t % 2 < b then 4 else if t % 2 = b then m else 0
def back (zs : List Int) : Nat → Int → Ent
  | 0, t => ent (cost zs 0 t) 0 0
  | k + 1, t => ent (cost zs (k + 1) t) k (pre zs k t)
def srv (zs : List Int) (k : Nat) (b m : Int) (j t : Int) : Ent :=
  if j ≤ k then back zs j.toNat t
  else if j = k + 1 then ent (vit.part (cost zs k) (zs.getD (2 * k) 0) (zs.getD (2 * k + 1) 0) (lv b m t) t) k (from_ (cost zs k) (zs.getD (2 * k) 0) (zs.getD (2 * k + 1) 0) (lv b m t) t)
  else none
theorem ent_no {c i s : Int} (h : c < 0) : ent c i s = none := if_pos h
theorem ent_yes {c i s : Int} (h : ¬ c < 0) : ent c i s = some (c, i, s) := if_neg h
theorem srv_low {zs : List Int} {k : Nat} {b m j t : Int} {i : Nat} (hj : j = i) (hi : i ≤ k) : srv zs k b m j t = back zs i t := by
  unfold srv; rw [if_pos (by omega), hj, Int.toNat_natCast]
theorem back_no {zs : List Int} {k : Nat} {t : Int} (h : cost zs k t < 0) : back zs k t = none := by
  cases k <;> exact ent_no h
theorem back_yes {zs : List Int} {k : Nat} {t : Int} (h : ¬ cost zs k t < 0) : ∃ i s, back zs k t = some (cost zs k t, i, s) := by
  cases k
  · exact ⟨_, _, ent_yes h⟩
  · exact ⟨_, _, ent_yes h⟩
theorem srv_high (zs : List Int) (k : Nat) (b m t : Int) : srv zs k b m (k + 1) t = ent (vit.part (cost zs k) (zs.getD (2 * k) 0) (zs.getD (2 * k + 1) 0) (lv b m t) t) k (from_ (cost zs k) (zs.getD (2 * k) 0) (zs.getD (2 * k + 1) 0) (lv b m t) t) := by
  unfold srv; rw [if_neg (by omega), if_pos rfl]
theorem lv_same {b t : Int} (h : t % 2 = b) (m : Int) : lv b m t = m := by unfold lv; rw [if_neg (by omega), if_pos h]
theorem lv_other {b t : Int} (h : ¬ t % 2 = b) (m m' : Int) : lv b m t = lv b m' t := by unfold lv; rw [if_neg h, if_neg h]
theorem srv_start (zs : List Int) (j t : Int) (h : Nd j t) : upd (fun _ _ => none) 0 0 0 0 0 j t = srv zs 0 0 0 j t := by
  obtain ⟨⟨hj, _⟩, ht, _⟩ := h
  unfold upd srv
  by_cases h0 : j = 0
  · subst h0
    rw [if_pos (show (0 : Int) ≤ ((0 : Nat) : Int) by omega)]
    by_cases h1 : t = 0
    · subst h1; rfl
    · rw [if_neg (by omega)]
      show _ = ent (cost zs 0 t) 0 0
      unfold cost
      rw [if_neg h1]; rfl
  · rw [if_neg (by omega), if_neg (by omega)]
    split
    · have : lv 0 0 t = 0 := by unfold lv; split <;> (try split) <;> omega
      rw [this, part_zero _ _ _ _ ht]; rfl
    · rfl
theorem srv_bit (zs : List Int) (k : Nat) (j t : Int) (h : Nd j t) : srv zs k 0 4 j t = srv zs k 1 0 j t := by
  have : lv 0 4 t = lv 1 0 t := by unfold lv; split <;> split <;> (try split) <;> omega
  unfold srv; rw [this]
theorem srv_next (zs : List Int) (k : Nat) (j t : Int) (h : Nd j t) : srv zs k 1 4 j t = srv zs (k + 1) 0 0 j t := by
  obtain ⟨⟨hj, _⟩, ht, _⟩ := h
  have h4 : lv 1 4 t = 4 := by unfold lv; split <;> (try split) <;> omega
  have h0 : lv 0 0 t = 0 := by unfold lv; split <;> (try split) <;> omega
  unfold srv
  rw [h4, h0]
  by_cases h1 : j ≤ k
  · rw [if_pos h1, if_pos (by omega)]
  · rw [if_neg h1]
    by_cases h2 : j = k + 1
    · rw [if_pos h2, if_pos (by omega)]
      have : j.toNat = k + 1 := by omega
      rw [this]; rfl
    · rw [if_neg h2, if_neg (by omega), part_zero _ _ _ _ ht]
      split <;> rfl
/-- What the state m does to the table. -/
theorem srv_none (zs : List Int) (k : Nat) (b m : Int) (hc : cost zs k m < 0) (j t : Int) (h : Nd j t) : srv zs k b m j t = srv zs k b (m + 1) j t := by
  obtain ⟨_, ht⟩ := h
  unfold srv
  by_cases hb : t % 2 = b
  · rw [lv_same hb, lv_same hb, part_none _ _ _ ht hc, from_none _ _ _ ht hc]
  · rw [lv_other hb m (m + 1)]
theorem srv_other (zs : List Int) (k : Nat) {b m : Int} (hs : cvm.Sb m b) {j t : Int} (h : Nd j t) (hne : ¬ (j = k + 1 ∧ t = cvm.nst m b)) : srv zs k b m j t = srv zs k b (m + 1) j t := by
  obtain ⟨_, ht0, ht3⟩ := h
  obtain ⟨⟨hm0, hm3⟩, hb0, hb1⟩ := hs
  unfold srv
  by_cases hj : j = k + 1
  · by_cases hb : t % 2 = b
    · have : ¬ t = cvm.nst m b := fun e => hne ⟨hj, e⟩
      unfold cvm.nst at this
      rw [lv_same hb, lv_same hb, part_other (m := m) (t := t) _ _ _ ⟨ht0, ht3⟩ (by omega) (by omega), from_other (m := m) (t := t) _ _ _ ⟨ht0, ht3⟩ (by omega) (by omega)]
    · rw [lv_other hb m (m + 1)]
  · rw [if_neg hj, if_neg hj]
theorem srv_worse (zs : List Int) (k : Nat) {b m d : Int} (hs : cvm.Sb m b) (hc : ¬ cost zs k m < 0) (hd : cost zs k m + bd m b (zs.getD (2 * k) 0) (zs.getD (2 * k + 1) 0) = d)
    (hl : ¬ (vit.part (cost zs k) (zs.getD (2 * k) 0) (zs.getD (2 * k + 1) 0) m (cvm.nst m b) < 0 ∨ d < vit.part (cost zs k) (zs.getD (2 * k) 0) (zs.getD (2 * k + 1) 0) m (cvm.nst m b))) (j t : Int) (h : Nd j t) :
    srv zs k b m j t = srv zs k b (m + 1) j t := by
  by_cases hne : j = k + 1 ∧ t = cvm.nst m b
  · obtain ⟨rfl, e⟩ := hne
    have hb : t % 2 = b := by subst e; unfold cvm.nst; have := hs.1; have := hs.2; omega
    rw [srv_high, srv_high, lv_same hb, lv_same hb, (part_worse _ _ _ e hs (by omega) hd (by rw [e]; exact hl)).1, (part_worse _ _ _ e hs (by omega) hd (by rw [e]; exact hl)).2]
  · exact srv_other zs k hs h hne
theorem srv_better (zs : List Int) (k : Nat) {b m d : Int} (hs : cvm.Sb m b) (hc : ¬ cost zs k m < 0) (hd : cost zs k m + bd m b (zs.getD (2 * k) 0) (zs.getD (2 * k + 1) 0) = d)
    (hl : vit.part (cost zs k) (zs.getD (2 * k) 0) (zs.getD (2 * k + 1) 0) m (cvm.nst m b) < 0 ∨ d < vit.part (cost zs k) (zs.getD (2 * k) 0) (zs.getD (2 * k + 1) 0) m (cvm.nst m b)) (j t : Int) (h : Nd j t) :
    upd (srv zs k b m) (k + 1) (cvm.nst m b) d k m j t = srv zs k b (m + 1) j t := by
  unfold upd
  split
  · rename_i hne
    obtain ⟨rfl, e⟩ := hne
    have hb : t % 2 = b := by subst e; unfold cvm.nst; have := hs.1; have := hs.2; omega
    have hb2 := bd_in m b (zs.getD (2 * k) 0) (zs.getD (2 * k + 1) 0)
    rw [srv_high, lv_same hb, (part_better _ _ _ e hs (by omega) hd (by rw [e]; exact hl)).1, (part_better _ _ _ e hs (by omega) hd (by rw [e]; exact hl)).2, ent_yes (by omega)]
  · rename_i hne
    exact srv_other zs k hs h hne
end Go.Proofs.YtdelpepepbkjmaaGreatDoor.tab
end

section
namespace Go.Proofs.YtdelpepepbkjmaaGreatDoor.vts
open Go.RowKit sl harn bm rng cvm cvs vit tab

theorem grown_drewN (w : World) (n : Nat) (r : Option Nat) : w.grownBy (w.drewN n) r := ⟨rfl, rfl, rfl, Nat.le_refl _, fun _ _ _ => rfl⟩
theorem grown_refl (w : World) (r : Option Nat) : w.grownBy w r := ⟨rfl, rfl, rfl, Nat.le_refl _, fun _ _ _ => rfl⟩
set_option maxRecDepth 100000 in
set_option maxHeartbeats 4000000 in
theorem implExt (zs : List Int) (k : Nat) (b : Int) (hb : 0 ≤ b ∧ b ≤ 1) (hk : k ≤ 2000) (x y : Int) (hx : zs.getD (2 * k) 0 = x) (hy : zs.getD (2 * k + 1) 0 = y) (B u : Nat) (hu : u ≤ 900000) (w : World) (hT : Tab w B u (srv zs k b 0)) :
    Calls Tryz.prog 129 #[.map (some B), .int .i64 k, .int .i64 b, .int .i64 x, .int .i64 y] w fun e w' => e = .returned (.tuple #[]) ∧ Tab w' B (u + 4) (srv zs k b 4) ∧ w.grownBy w' (some B) := by
  have HX := Lib.hid (And.intro hx hy)
  have HB := Lib.hid hb
  have T0 := Lib.hid hT
  clear hx hy hT hb
  go_enter Tryz.func129, Tryz.ntmps129
  go_wp2_with fail
  go_loopw [18] (fun i wr => ∃ s : Nat, i = .int .i64 s ∧ s ≤ 4 ∧ Tab wr B (u + s) (srv zs k b s) ∧ w.grownBy wr (some B)) (fun i _ => 4 - (intOf i).toNat)
  case atStart => exact ⟨0, rfl, by omega, T0.out, grown_refl _ _⟩
  case round =>
    obtain ⟨s, rfl, hs, hT, hg⟩ := hrel
    have T1 := Lib.hid hT
    have G1 := Lib.hid hg
    clear hT hg
    by_cases hlt : s < 4
    · have hlt2 : (s : Int) < 4 := by omega
      have N1 := Lib.hid (show Nd k s from ⟨by omega, by omega⟩)
      have SB := Lib.hid (show Sb s b from ⟨by omega, HB.out⟩)
      have S1 := Lib.hid (srv_low (zs := zs) (b := b) (m := s) (t := s) (j := k) rfl (Nat.le_refl k))
      by_cases hc : cost zs k s < 0
      · have M1 := Lib.hid (show srv zs k b s k s = none by rw [S1.out, back_no hc])
        have NX := Lib.hid (srv_none zs k b s hc)
        clear hc
        go_wp2_with (at_lookup; refine wpList_lookup_run _ rfl _ _ 142 true rfl (Tab.no (T1.out.alloc _) N1.out M1.out) rfl rfl ?_)
        go_roundw
        case rel => exact ⟨s + 1, by go_num, by omega, (((T1.out.congr NX.out).alloc _).alloc _).mono (by omega), (G1.out.trans (World.grownBy_alloc _ _ _)).trans (World.grownBy_alloc _ _ _)⟩
        case measure => simp [intOf]; omega
      · obtain ⟨i, p, hM⟩ := back_yes hc
        have hcb := cost_in zs k s
        have hbd := bd_in s b x y
        obtain ⟨c, hcc⟩ : ∃ c, cost zs k s = c := ⟨_, rfl⟩
        obtain ⟨t, ht⟩ : ∃ t, nst s b = t := ⟨_, rfl⟩
        obtain ⟨q, hq⟩ : ∃ q, bd s b x y = q := ⟨_, rfl⟩
        have ht3 := nst_in s b
        have M1 := Lib.hid (show srv zs k b s k s = some (c, i, p) by rw [S1.out, hM, hcc])
        have HQ := Lib.hid (And.intro hcc hq)
        have HN := Lib.hid (show nxt s b = t by rw [nxt_yes SB.out, ht])
        have N2 := Lib.hid (show Nd (k + 1) t from ⟨by omega, by omega⟩)
        have S2 := Lib.hid (srv_high zs k b s t)
        have HNS := Lib.hid ht
        rw [hcc] at hc hcb
        rw [hq] at hbd
        rw [ht] at ht3
        have HQB := Lib.hid (show ∀ (W : World) (n : Nat), Calls Tryz.prog 134 #[.int .i64 s, .int .i64 b, .int .i64 x, .int .i64 y] (W.drewN n) fun e w' => e = .returned (.int .i64 q) ∧ w' = W.drewN n from fun W n => (implBd s b x y _).mono fun e w' ⟨h1, h2⟩ => ⟨by rw [h1, HQ.out.2], h2.symm⟩)
        clear hM hcc ht hq
        go_wp2_with (at_lookup; refine wpList_lookup_run _ rfl _ _ 142 true rfl (Tab.yes (T1.out.alloc _) N1.out M1.out) rfl rfl ?_)
        (with_reducible refine (implNext s b _).mono ?_)
        rw [HN.out]
        rintro e w1 ⟨rfl, rfl⟩
        go_wp2_with fail
        go_quiet ((go_at_call 134; exact Calls.quiet_of_same (HQB.out _ _)))
        have TQ := Lib.hid (((T1.out.alloc (.cells #[.int .i64 k, .int .i64 s] 139)).alloc (.cells #[.int .i64 c, .int .i64 i, .int .i64 p] 141)).alloc (.cells #[.int .i64 ((k : Int) + 1), .int .i64 t] 139) |>.kept (grown_drewN _ nq none) (by simp))
        have GQ := Lib.hid ((((G1.out.trans (World.grownBy_alloc _ (.cells #[.int .i64 k, .int .i64 s] 139) _)).trans (World.grownBy_alloc _ (.cells #[.int .i64 c, .int .i64 i, .int .i64 p] 141) _)).trans (World.grownBy_alloc _ (.cells #[.int .i64 ((k : Int) + 1), .int .i64 t] 139) _)).trans (grown_drewN _ nq _))
        have hlv : lv b s t = s := lv_same (by rw [← HNS.out]; have := HB.out; unfold nst; omega) s
        rw [hlv] at S2
        have hpin := part_in (x := zs.getD (2 * k) 0) (y := zs.getD (2 * k + 1) 0) (m := s) (t := t) (cost_in zs k)
        have HWR := Lib.hid (srv_worse zs k (d := c + q) SB.out (by rw [HQ.out.1]; omega) (by rw [HX.out.1, HX.out.2, HQ.out.1, HQ.out.2]))
        have HBT := Lib.hid (srv_better zs k (d := c + q) SB.out (by rw [HQ.out.1]; omega) (by rw [HX.out.1, HX.out.2, HQ.out.1, HQ.out.2]))
        rw [HNS.out] at HWR HBT
        obtain ⟨f, hf⟩ : ∃ f, from_ (cost zs k) (zs.getD (2 * k) 0) (zs.getD (2 * k + 1) 0) s t = f := ⟨_, rfl⟩
        obtain ⟨P, hP⟩ : ∃ P, vit.part (cost zs k) (zs.getD (2 * k) 0) (zs.getD (2 * k + 1) 0) s t = P := ⟨_, rfl⟩
        rw [hf, hP] at S2
        rw [hP] at hpin HWR HBT
        clear hf hP hlv
        by_cases hP0 : P < 0
        · have M2 := Lib.hid (show srv zs k b s (k + 1) t = none by rw [S2.out, ent_no hP0])
          have NX := Lib.hid (HBT.out (Or.inl hP0))
          clear HWR HBT hP0 hpin
          go_wp2_with (first
            | (at_lookup; refine wpList_lookup_run _ rfl _ _ 142 true rfl (Tab.no TQ.out N2.out M2.out) rfl rfl ?_)
            | (at_mapUpdate; refine wpList_put _ rfl _ _ _ rfl (TQ.out.alloc _) (by omega) N2.out rfl rfl rfl ?_; intro w5 hT5 hg5; have T5 := Lib.hid hT5; have G5 := Lib.hid hg5; clear hT5 hg5))
          go_roundw
          case rel => exact ⟨s + 1, by go_num, by omega, T5.out.congr NX.out, (GQ.out.trans (World.grownBy_alloc _ _ _)).trans G5.out⟩
          case measure => simp [intOf]; omega
        · have M2 := Lib.hid (show srv zs k b s (k + 1) t = some (P, (k : Int), f) by rw [S2.out, ent_yes hP0])
          by_cases hlt5 : c + q < P
          · have NX := Lib.hid (HBT.out (Or.inr hlt5))
            clear HWR HBT
            go_wp2_with (first
              | (at_lookup; refine wpList_lookup_run _ rfl _ _ 142 true rfl (Tab.yes TQ.out N2.out M2.out) rfl rfl ?_)
              | (at_mapUpdate; refine wpList_put _ rfl _ _ _ rfl (TQ.out.alloc _) (by omega) N2.out rfl rfl rfl ?_; intro w5 hT5 hg5; have T5 := Lib.hid hT5; have G5 := Lib.hid hg5; clear hT5 hg5))
            go_roundw
            case rel => exact ⟨s + 1, by go_num, by omega, T5.out.congr NX.out, (GQ.out.trans (World.grownBy_alloc _ _ _)).trans G5.out⟩
            case measure => simp [intOf]; omega
          · have NX := Lib.hid (HWR.out (by intro g; rcases g with g | g; exact hP0 g; exact hlt5 g))
            clear HWR HBT
            go_wp2_with (at_lookup; refine wpList_lookup_run _ rfl _ _ 142 true rfl (Tab.yes TQ.out N2.out M2.out) rfl rfl ?_)
            go_roundw
            case rel => exact ⟨s + 1, by go_num, by omega, ((TQ.out.alloc _).congr NX.out).mono (by omega), GQ.out.trans (World.grownBy_alloc _ _ _)⟩
            case measure => simp [intOf]; omega
    · have hlt2 : ¬ (s : Int) < 4 := by omega
      obtain rfl : s = 4 := by omega
      go_wp2_with fail
      go_end0
      exact ⟨rfl, T1.out, G1.out⟩
end Go.Proofs.YtdelpepepbkjmaaGreatDoor.vts
end

section
namespace Go.Proofs.YtdelpepepbkjmaaGreatDoor.vts
open Go.RowKit sl harn bm rng cvm cvs vit tab

/-- The step of the node that a pointer leads to. -/
def stepAt (v : Value) (w : World) : Nat := match v with
  | .pointer (some a) => match w.cell? a with
    | some (.int _ j) => j.toNat
    | _ => 0
  | _ => 0
/-- A node in a block of its own. -/
def Node (w : World) (b : Nat) (j t : Int) : Prop := w.heap[b]? = some (.cells #[.int .i64 j, .int .i64 t] 139 (0, 0))
theorem Node.c0 {w : World} {b : Nat} {j t : Int} (h : Node w b j t) : w.cell? ⟨b, 0, none⟩ = some (.int .i64 j) := by unfold Node at h; simp [World.cell?, h]
theorem Node.c1 {w : World} {b : Nat} {j t : Int} (h : Node w b j t) : w.cell? ⟨b, 1, none⟩ = some (.int .i64 t) := by unfold Node at h; simp [World.cell?, h]
theorem Node.same {w w' : World} {b : Nat} {j t : Int} (h : Node w b j t) (hb : w'.heap[b]? = w.heap[b]?) : Node w' b j t := by unfold Node at h ⊢; rw [hb]; exact h
theorem Node.lt {w : World} {b : Nat} {j t : Int} (h : Node w b j t) : b < w.heap.size := lt_of_block h
theorem Node.alloc {w : World} {b : Nat} {j t : Int} (h : Node w b j t) (o : Obj) : Node (w.alloc o) b j t := h.same (Below.heap_alloc _ _ _ h.lt)
theorem Node.other {w : World} {b : Nat} {j t : Int} (h : Node w b j t) {p : Addr} (hp : b ≠ p.block) (u : Value) : Node (w.setCell p u) b j t := h.same (Below.heap_setCell _ _ _ _ hp)
theorem Node.made (w : World) (j t : Int) : Node (w.alloc (.cells #[.int .i64 j, .int .i64 t] 139)) w.heap.size j t := heap_alloc_new w _
theorem Node.turned {w : World} {b : Nat} {j t : Int} (h : Node w b j t) (j' t' : Int) : Node ((w.setCell ⟨b, 0, none⟩ (.int .i64 j')).setCell ⟨b, 1, none⟩ (.int .i64 t')) b j' t' := by
  have h1 := heap_setCell_same w b 0 _ _ (.int .i64 j') h
  have h2 := heap_setCell_same _ b 1 _ _ (.int .i64 t') h1
  exact h2
theorem stepAt_node {w : World} {b : Nat} {j : Nat} {t : Int} (h : Node w b j t) : stepAt (.pointer (some ⟨b, 0, none⟩)) w = j := by
  unfold stepAt; simp [h.c0]
theorem field_from (c j p : Int) (w : World) : (Instr.field 141 (.agg #[.int .i64 c, .int .i64 j, .int .i64 p]) 1).run Tryz.prog w = .ok (.agg #[.int .i64 j, .int .i64 p]) w := by kernel_rfl
set_option maxRecDepth 100000 in
set_option maxHeartbeats 4000000 in
theorem implPath (zs : List Int) (n : Nat) (hz : zs.length = 2 * (n + 2)) (hn : n ≤ 1000) (B u : Nat) (w : World) (hT : Tab w B u (srv zs (n + 2) 0 0)) :
    Calls Tryz.prog 130 #[.map (some B), .agg #[.int .i64 ((n : Int) + 2), .int .i64 0]] w (SlPost 3 .i64 w (dec zs n)) := by
  obtain ⟨i0, hi0, hz0, hz1, hz2⟩ := info_parts intInfo
  have hmk := fun W => run_make1 (P := Tryz.prog) 28 3 i0 _ Tryz.underlying28 hi0 hz0 hz1 n (by omega) (by omega) W
  have HZ := Lib.hid hz
  have T0 := Lib.hid hT
  have HB := Lib.hid hT.lt
  clear hz2 hz1 hz0 hi0 hz hT
  go_enter Tryz.func130, Tryz.ntmps130
  go_wp2_with fail
  go_loopw [7] (fun v wr => ∃ (j : Nat) (t : Int) (b7 : Nat), v = .pointer (some ⟨b7, 0, none⟩) ∧ On zs (n + 2) j t ∧ Node wr b7 j t ∧ w.heap.size + 2 < b7 ∧ Node wr (w.heap.size + 1 + 1) 0 0 ∧ Bk 3 .i64 (w.heap.size + 1) wr n j (path zs (n + 2) 0) ∧ Below w.heap.size w wr) (fun v wr => stepAt v wr)
  case atStart =>
    refine ⟨n + 2, 0, w.heap.size + 1 + 1 + 1, rfl, On.start HZ.out, ?_, by omega, ?_, ?_, ?_⟩
    · have := Node.made (((w.alloc (.cells #[.int .i64 ((n : Int) + 2), .int .i64 0] 139)).alloc (.cells (madeCells #[.int .i64 0] n) 3)).alloc (.cells #[.int .i64 0, .int .i64 0] 139)) ((n : Int) + 2) 0
      simpa using this
    · have := (Node.made ((w.alloc (.cells #[.int .i64 ((n : Int) + 2), .int .i64 0] 139)).alloc (.cells (madeCells #[.int .i64 0] n) 3)) 0 0).alloc (.cells #[.int .i64 ((n : Int) + 2), .int .i64 0] 139)
      simpa using this
    · have := ((Bk.start 3 .i64 (w.alloc (.cells #[.int .i64 ((n : Int) + 2), .int .i64 0] 139)) n (j := n + 2) (by omega) (path zs (n + 2) 0) #[.int .i64 0]).alloc (.cells #[.int .i64 0, .int .i64 0] 139)).alloc (.cells #[.int .i64 ((n : Int) + 2), .int .i64 0] 139)
      simpa using this
    · exact ((((Below.refl _ _).alloc (Nat.le_refl _) _).alloc (by simp) _).alloc (by simp; omega) _).alloc (by simp; omega) _
  case round =>
    clear hmk
    obtain ⟨j, t, b7, rfl, hon, hnd, hb7, hns, hbk, hbl⟩ := hrel
    have ON := Lib.hid hon
    have ND := Lib.hid hnd
    have NS := Lib.hid hns
    have BK := Lib.hid hbk
    have BL := Lib.hid hbl
    have hc0 := hnd.c0
    have hc1 := hnd.c1
    have hs0 := hns.c0
    have hs1 := hns.c1
    have h7s := hnd.lt
    clear hon hnd hns hbk hbl
    rcases j with _ | j
    · obtain rfl := ON.out.zero
      go_wp2_with fail
      go_ret
      exact ⟨_, _, _, rfl, BK.out.done (dec_len zs n) (fun i hi => dec_at zs hi) (Wf.of_i64 fun z hz => by have := isb_all (dec_bit HZ.out) z hz; omega) (by unfold maxLen; omega) (by omega), BL.out⟩
    · have ht := ON.out.1.1
      obtain ⟨h1, h2⟩ := ON.out.next
      have hjm := ON.out.2.1
      obtain ⟨p, hp⟩ : ∃ p, pre zs j t = p := ⟨_, rfl⟩
      rw [hp] at h1
      have NX := Lib.hid h1
      have N1 := Lib.hid (show Nd ((j : Int) + 1) t from ⟨by omega, ht⟩)
      have M1 := Lib.hid (show srv zs (n + 2) 0 0 ((j : Int) + 1) t = some (cost zs (j + 1) t, (j : Int), p) by
        rw [srv_low (i := j + 1) (by omega) hjm, back, ent_yes (by have := ON.out.1.2; omega), hp])
      obtain ⟨c, hc⟩ : ∃ c, cost zs (j + 1) t = c := ⟨_, rfl⟩
      rw [hc] at M1
      have hne : ¬ b7 = w.heap.size + 1 := by omega
      have hnn : ((j : Int) + 1 == 0) = false := by
        have : ¬ (j : Int) + 1 = 0 := by omega
        simpa using this
      clear hc hp h1
      by_cases hlt : j < n
      · have hlt2 : (j : Int) + 1 ≤ n := by omega
        obtain ⟨v, hv⟩ : ∃ v, bits .and .i64 t 1 = v := ⟨_, rfl⟩
        have HV := Lib.hid (show (path zs (n + 2) 0).getD j 0 = v by rw [h2, ← hv]; exact (draw.low_bits 1 (by omega) t).symm)
        obtain ⟨v0, hv0⟩ := BK.out.cell hlt
        have hfr := BK.out.free j
        have HK := Lib.hid (BK.out.step hlt HV.out)
        have hfd := fun W => field_from c j p W
        have hsz := BL.out.size
        clear h2
        go_wp2_with (at_lookup; refine wpList_lookup_run _ rfl _ _ 142 false rfl (Tab.at_ (T0.out.block (by simp [World.setCell]; omega) (((BL.out.setCell (p := ⟨w.heap.size + 1, j, none⟩) (Nat.le_succ _) _).alloc (by simpa [World.setCell] using hsz) _).block B HB.out)) N1.out M1.out) rfl rfl ?_)
        have NM := Lib.hid (show Node ((wr.setCell ⟨w.heap.size + 1, j, none⟩ (.int .i64 v)).alloc (.cells #[.int .i64 j, .int .i64 p] 139)) wr.heap.size j p by
          have := Node.made (wr.setCell ⟨w.heap.size + 1, j, none⟩ (.int .i64 v)) j p
          simpa [World.setCell] using this)
        go_roundw
        case rel => exact ⟨j, p, wr.heap.size, rfl, NX.out, NM.out, by omega, (NS.out.other (p := ⟨w.heap.size + 1, j, none⟩) (by simp) _).alloc _, HK.out.alloc _, (BL.out.setCell (p := ⟨w.heap.size + 1, j, none⟩) (Nat.le_succ _) _).alloc (by simpa [World.setCell] using hsz) _⟩
        case measure => rw [stepAt_node NM.out, stepAt_node ND.out]; omega
      · have hlt2 : ¬ (j : Int) + 1 ≤ n := by omega
        have hfd := fun W => field_from c j p W
        have hsz := BL.out.size
        clear h2
        go_wp2_with (at_lookup; refine wpList_lookup_run _ rfl _ _ 142 false rfl (Tab.at_ (T0.out.block (by simp; omega) ((BL.out.alloc hsz _).block B HB.out)) N1.out M1.out) rfl rfl ?_)
        have NM := Lib.hid (Node.made wr j p)
        go_roundw
        case rel => exact ⟨j, p, wr.heap.size, rfl, NX.out, NM.out, by omega, NS.out.alloc _, (BK.out.skip (by omega)).alloc _, BL.out.alloc hsz _⟩
        case measure => rw [stepAt_node NM.out, stepAt_node ND.out]; omega
end Go.Proofs.YtdelpepepbkjmaaGreatDoor.vts
end

section
namespace Go.Proofs.YtdelpepepbkjmaaGreatDoor.vts
open Go.RowKit sl harn bm rng cvm cvs vit tab

theorem field_dist (c j p : Int) (w : World) : (Instr.field 141 (.agg #[.int .i64 c, .int .i64 j, .int .i64 p]) 0).run Tryz.prog w = .ok (.int .i64 c) w := by kernel_rfl
/-- What a decoder hands back. -/
def VitPost (t : List Int × Int) (w : World) (e : Ending) (w' : World) : Prop :=
  ∃ A m c, e = .returned (.tuple #[.slice A m c, .int .i64 t.2]) ∧ Ow 3 .i64 w' w.heap.size w'.heap.size A m c t.1 ∧ Below w.heap.size w w'
def stage (zs : List Int) (k b : Nat) : Int → Int → Ent := if b = 2 then srv zs (k + 1) 0 0 else srv zs k b 0
theorem stage_zero (zs : List Int) (k : Nat) : stage zs k 0 = srv zs k 0 0 := by unfold stage; rw [if_neg (by omega)]; rfl
theorem stage_two (zs : List Int) (k : Nat) : stage zs k 2 = srv zs (k + 1) 0 0 := by unfold stage; rw [if_pos rfl]
theorem stage_in (zs : List Int) (k : Nat) {b : Nat} (hb : b < 2) : stage zs k b = srv zs k b 0 := by unfold stage; rw [if_neg (by omega)]
theorem stage_next (zs : List Int) (k : Nat) {b : Nat} (hb : b < 2) (j t : Int) (h : Nd j t) : srv zs k b 4 j t = stage zs k (b + 1) j t := by
  have : b = 0 ∨ b = 1 := by omega
  rcases this with rfl | rfl
  · rw [stage_in zs k (by omega)]; exact srv_bit zs k j t h
  · rw [stage_two]; exact srv_next zs k j t h
set_option maxRecDepth 100000 in
set_option maxHeartbeats 4000000 in
theorem implVit (zs : List Int) (lo hi : Nat) (A : Option Addr) (n cap : Nat) (w : World) (h : Rd .i64 w lo hi A n cap zs) :
    Calls Tryz.prog 104 #[.slice A n cap] w (VitPost (vit zs) w) := by
  have HL := Lib.hid h.len
  have hb := h.cap_
  have HW := Lib.hid (show (Lit.int .i64 (n : Int)).wf = true from WalkArith.wf_i64 (by omega))
  have HR := Lib.hid h
  clear h
  rcases vit_cases zs with ⟨m, hm, hs⟩ | hno
  · have hm2 := inl_nat hm
    have HV := Lib.hid (vit_yes hm hs)
    have HZ := Lib.hid hm2.1
    have HM := Lib.hid (show inl n = m by rw [← HL.out]; exact hm)
    have HS := Lib.hid hs
    have hm3 := hm2.2
    have hnm : n = 2 * (m + 2) := by rw [← HL.out]; exact hm2.1
    have hmm := @run_makeMap Tryz.prog
    have HNM := Lib.hid hnm
    clear hm hs hm2 hnm
    go_enter Tryz.func104, Tryz.ntmps104
    go_wp2_with fail
    (with_reducible refine (implInl _ HW.out _).mono ?_)
    rw [HM.out]
    rintro e w1 ⟨rfl, rfl⟩
    go_wp2_with fail
    (with_reducible refine (bits.implIss zs _ _ A n cap _ HR.out).mono ?_)
    rw [HS.out]
    rintro e w1 ⟨rfl, rfl⟩
    have T0 := Lib.hid (Tab.made w)
    go_wp2_with (refine wpList_ins _ rfl _ _ _ rfl T0.out (by omega) (j := 0) (t := 0) (d := 0) (i := 0) (s := 0) ⟨by omega, by omega⟩ rfl rfl rfl ?_; intro w5 hT5 hg5; have T5 := Lib.hid (hT5.congr (srv_start zs)); have B5 := Lib.hid (((Below.refl w.heap.size w).alloc (Nat.le_refl _) (.map #[] 0)).grown hg5 (by simp) (fun j hj => by cases hj; exact Nat.le_refl _)); clear hT5 hg5)
    go_loopw [26] (fun i wr => ∃ k : Nat, i = .int .i64 k ∧ k ≤ m + 2 ∧ Tab wr w.heap.size (1 + 8 * k) (srv zs k 0 0) ∧ Below w.heap.size w wr) (fun i _ => m + 2 - (intOf i).toNat)
    case atStart => exact ⟨0, rfl, by omega, T5.out, B5.out⟩
    case round =>
      clear T0 T5 B5 hmm
      obtain ⟨k, rfl, hk, hT, hB⟩ := hrel
      have TK := Lib.hid hT
      have BK := Lib.hid hB
      clear hT hB
      by_cases hlt : k < m + 2
      · have hlt2 : (k : Int) < (m : Int) + 2 := by omega
        go_wp2_with fail
        go_loopw [29] (fun i wr => ∃ b : Nat, i = .int .i64 b ∧ b ≤ 2 ∧ Tab wr w.heap.size (1 + 8 * k + 4 * b) (stage zs k b) ∧ Below w.heap.size w wr) (fun i _ => 2 - (intOf i).toNat)
        case atStart => exact ⟨0, rfl, by omega, by rw [stage_zero]; exact TK.out, BK.out⟩
        case round =>
          clear TK BK
          obtain ⟨b, rfl, hb2, hT, hB⟩ := hrel
          have TB := Lib.hid hT
          have BB := Lib.hid hB
          clear hT hB
          by_cases hlb : b < 2
          · have hlb2 : (b : Int) < 2 := by omega
            obtain ⟨r, hr⟩ : ∃ r : Nat, 2 * k = r := ⟨_, rfl⟩
            obtain ⟨r1, hr1⟩ : ∃ r1 : Nat, r + 1 = r1 := ⟨_, rfl⟩
            obtain ⟨ab, off, rfl, _, hab, hc⟩ := (HR.out.below BB.out).at_ (i := r) (by rw [HNM.out]; omega)
            obtain ⟨ab', off', e, _, _, hc'⟩ := (HR.out.below BB.out).at_ (i := r1) (by rw [HNM.out]; omega)
            injection e with e; injection e with e1 e2 e3
            subst e1 e2
            obtain ⟨x, hx⟩ : ∃ x, zs.getD r 0 = x := ⟨_, rfl⟩
            obtain ⟨y, hy⟩ : ∃ y, zs.getD r1 0 = y := ⟨_, rfl⟩
            rw [hx] at hc
            rw [hy] at hc'
            have HX := Lib.hid (show zs.getD (2 * k) 0 = x by rw [hr]; exact hx)
            have HY := Lib.hid (show zs.getD (2 * k + 1) 0 = y by rw [hr, hr1]; exact hy)
            have hi1 : (r : Int) < n := by rw [HNM.out]; omega
            have hi2 : (r1 : Int) < n := by rw [HNM.out]; omega
            have w1 : IntKind.i64.wrap (r : Int) = r := IntWalk.i64_in _ (by omega)
            have w2 : IntKind.i64.wrap (r1 : Int) = r1 := IntWalk.i64_in _ (by omega)
            have w3 : 2 * (k : Int) = r := by omega
            have w4 : (r : Int) + 1 = r1 := by omega
            have HAB := Lib.hid (show ab < w.heap.size from by have := (HR.out).hi_; omega)
            rw [stage_in zs k hlb] at TB
            clear hx hy e3 hab hr hr1
            go_wp2_with fail
            go_region_held3 (fun w' => w'.cell? ⟨ab, off + r, none⟩ = some (.int .i64 x) ∧ w'.cell? ⟨ab, off + r1, none⟩ = some (.int .i64 y)) (first | exact ⟨hc, hc'⟩ | exact ⟨c7, c8⟩)
              (first
              | (go_at_call 129; refine (implExt zs k b (by omega) (by omega) x y HX.out HY.out w.heap.size _ (by omega) _ TB.out.drew).mono ?_; rintro e w7 ⟨rfl, hT7, hg7⟩; have T7 := Lib.hid (hT7.congr (stage_next zs k hlb)); have B7 := Lib.hid (BB.out.drew.grown hg7 BB.out.size (fun j hj => by cases hj; exact Nat.le_refl _)); have c7 := (hg7.cell (w := wr.drew) (a := ⟨ab, off + r, none⟩) hc (by intro e; injection e with e; have e2 : ab = w.heap.size := e; have := HAB.out; omega)); have c8 := (hg7.cell (w := wr.drew) (a := ⟨ab, off + r1, none⟩) hc' (by intro e; injection e with e; have e2 : ab = w.heap.size := e; have := HAB.out; omega)); clear hT7 hg7))
            clear c7 c8 hc hc'
            go_wp2_with fail
            go_roundw
            case rel => exact ⟨b + 1, by go_num, by omega, T7.out.mono (by omega), B7.out⟩
            case measure => simp [intOf]; omega
          · have hlb2 : ¬ (b : Int) < 2 := by omega
            obtain rfl : b = 2 := by omega
            have T7 := Lib.hid (show Tab wr w.heap.size (1 + 8 * (k + 1)) (srv zs (k + 1) 0 0) by have := TB.out; rw [stage_two] at this; exact this.mono (by omega))
            go_wp2_with fail
            go_roundw
            case rel => exact ⟨k + 1, by go_num, by omega, T7.out, BB.out⟩
            case measure => simp [intOf]; omega
      · have hlt2 : ¬ (k : Int) < (m : Int) + 2 := by omega
        obtain rfl : k = m + 2 := by omega
        have hlive := end_live HZ.out
        have HC := Lib.hid (show srv zs (m + 2) 0 0 ((m : Int) + 2) 0 = some (cost zs (m + 2) 0, (m : Int) + 1, pre zs (m + 1) 0) by
          rw [srv_low (i := m + 2) (by omega) (Nat.le_refl _), back, ent_yes (by have h0 : 0 ≤ cost zs (m + 1 + 1) 0 := hlive.2; omega)]; simp)
        obtain ⟨c, hc⟩ : ∃ c, cost zs (m + 2) 0 = c := ⟨_, rfl⟩
        obtain ⟨p, hp⟩ : ∃ p, pre zs (m + 1) 0 = p := ⟨_, rfl⟩
        rw [hc, hp] at HC
        rw [hc] at HV
        have N0 := Lib.hid (show Nd ((m : Int) + 2) 0 from ⟨by omega, by omega⟩)
        clear hc hp hlive
        have hfd : ∀ W : World, (Instr.field 141 (.agg #[.int .i64 c, .int .i64 ((m : Int) + 1), .int .i64 p]) 0).run Tryz.prog W = .ok (.int .i64 c) W := fun W => field_dist c _ p W
        have TQ := Lib.hid (TK.out.alloc (.cells #[.int .i64 ((m : Int) + 2), .int .i64 0] 139))
        have BQ := Lib.hid (BK.out.alloc BK.out.size (.cells #[.int .i64 ((m : Int) + 2), .int .i64 0] 139))
        have NQ := Lib.hid (Node.made wr ((m : Int) + 2) 0)
        have q0 := NQ.out.c0
        have q1 := NQ.out.c1
        have q2 := Tab.at_ TQ.out N0.out HC.out
        have q3 := Tab.at_ TQ.out.drew N0.out HC.out
        go_wp2_with fail
        go_region_held3 (fun w' => w'.cell? ⟨wr.heap.size, 0, none⟩ = some (.int .i64 ((m : Int) + 2)) ∧ w'.cell? ⟨wr.heap.size, 1, none⟩ = some (.int .i64 0) ∧ (Instr.lookup 142 (.map (some w.heap.size)) (.agg #[.int .i64 ((m : Int) + 2), .int .i64 0]) false).run Tryz.prog w' = .ok (.agg #[.int .i64 c, .int .i64 ((m : Int) + 1), .int .i64 p]) w') (first | exact ⟨q0, q1, q2⟩ | exact ⟨q0, q1, q3⟩ | exact ⟨k0, k1, k2⟩)
          (first
          | (go_at_call 130; refine (implPath zs m HZ.out hm3 w.heap.size _ _ TQ.out.drew).mono ?_; rintro e w8 ⟨P, q, cq, rfl, ho8, hb8⟩; have O8 := Lib.hid ho8; have B8 := Lib.hid hb8; have N8 := NQ.out.same (hb8.block wr.heap.size (by simp)); have k0 := N8.c0; have k1 := N8.c1; have k2 := Tab.at_ (TQ.out.block hb8.size (hb8.block w.heap.size TQ.out.lt)) N0.out HC.out; clear ho8 hb8 N8))
        all_goals
         (clear q0 q1 q2 q3 k0 k1 k2 hfd
          go_wp2_with fail
          go_ret2
          rw [HV.out]
          exact ⟨P, q, cq, rfl, O8.out.down BQ.out.size, BQ.out.drew.trans (B8.out.mono BQ.out.size)⟩)
  · have HV := Lib.hid (vit_no hno)
    by_cases h0 : inl zs.length < 0
    · have HI := Lib.hid (show inl n = -1 by rw [← HL.out]; have := inl_in zs.length; omega)
      clear hno h0
      go_enter Tryz.func104, Tryz.ntmps104
      go_wp2_with fail
      (with_reducible refine (implInl _ HW.out _).mono ?_)
      rw [HI.out]
      rintro e w1 ⟨rfl, rfl⟩
      go_wp2_with fail
      go_ret2
      rw [HV.out]
      exact ⟨_, _, _, rfl, (Ow.empty _ _ _).up, (Below.refl _ _).alloc (Nat.le_refl _) _⟩
    · have hs : inr zs 0 2 = false := by
        cases h : inr zs 0 2
        · rfl
        · exact absurd ⟨by omega, h⟩ hno
      have HS := Lib.hid hs
      obtain ⟨m, hm⟩ := Int.eq_ofNat_of_zero_le (show 0 ≤ inl zs.length by omega)
      have HI := Lib.hid (show inl n = m by rw [← HL.out]; exact hm)
      have hm2 := (inl_nat hm).2
      clear hno h0 hs hm
      go_enter Tryz.func104, Tryz.ntmps104
      go_wp2_with fail
      (with_reducible refine (implInl _ HW.out _).mono ?_)
      rw [HI.out]
      rintro e w1 ⟨rfl, rfl⟩
      go_wp2_with fail
      (with_reducible refine (bits.implIss zs _ _ A n cap _ HR.out).mono ?_)
      rw [HS.out]
      rintro e w1 ⟨rfl, rfl⟩
      go_wp2_with fail
      go_ret2
      rw [HV.out]
      exact ⟨_, _, _, rfl, (Ow.empty _ _ _).up, (Below.refl _ _).alloc (Nat.le_refl _) _⟩
end Go.Proofs.YtdelpepepbkjmaaGreatDoor.vts
end

section
namespace Go.Proofs.YtdelpepepbkjmaaGreatDoor.vts
open Go.RowKit sl harn bm rng cvm cvs vit

/-- Block b is a row of four costs. -/
def Row4 (w : World) (b : Nat) (f : Int → Int) : Prop := w.heap[b]? = some (.cells #[.int .i64 (f 0), .int .i64 (f 1), .int .i64 (f 2), .int .i64 (f 3)] 3 (0, 0))
theorem Row4.cell {w : World} {b : Nat} {f : Int → Int} (h : Row4 w b f) {s : Nat} (hs : s < 4) : w.cell? ⟨b, s, none⟩ = some (.int .i64 (f s)) := by
  unfold Row4 at h
  have : s = 0 ∨ s = 1 ∨ s = 2 ∨ s = 3 := by omega
  rcases this with rfl | rfl | rfl | rfl <;> simp [World.cell?, h]
theorem Row4.free {w : World} {b : Nat} {f : Int → Int} (h : Row4 w b f) (i : Nat) : w.frozen? ⟨b, i, none⟩ = false := by
  unfold Row4 at h; simp [World.frozen?, h]
theorem Row4.same {w w' : World} {b : Nat} {f : Int → Int} (h : Row4 w b f) (hb : w'.heap[b]? = w.heap[b]?) : Row4 w' b f := by unfold Row4 at h ⊢; rw [hb]; exact h
theorem Row4.lt {w : World} {b : Nat} {f : Int → Int} (h : Row4 w b f) : b < w.heap.size := lt_of_block h
theorem Row4.congr {w : World} {b : Nat} {f g : Int → Int} (h : Row4 w b f) (e : ∀ t, 0 ≤ t ∧ t ≤ 3 → f t = g t) : Row4 w b g := by
  unfold Row4 at h ⊢; rw [← e 0 (by omega), ← e 1 (by omega), ← e 2 (by omega), ← e 3 (by omega)]; exact h
theorem Row4.set {w : World} {b : Nat} {f : Int → Int} (h : Row4 w b f) {s : Nat} (hs : s < 4) (d : Int) : Row4 (w.setCell ⟨b, s, none⟩ (.int .i64 d)) b (fun t => if t = s then d else f t) := by
  have h1 := heap_setCell_same w b s _ _ (.int .i64 d) h
  unfold Row4
  rw [h1]
  have : s = 0 ∨ s = 1 ∨ s = 2 ∨ s = 3 := by omega
  rcases this with rfl | rfl | rfl | rfl <;> simp
theorem Row4.made (w : World) (a b c d : Int) : Row4 (w.alloc (.cells #[.int .i64 a, .int .i64 b, .int .i64 c, .int .i64 d] 3)) w.heap.size (fun t => if t = 0 then a else if t = 1 then b else if t = 2 then c else d) := by
  unfold Row4; rw [heap_alloc_new]; simp
def BackPost (f : Int → Int) (x y t : Int) (w : World) (e : Ending) (w' : World) : Prop := e = .returned (.tuple #[.int .i64 (from_ f x y 4 t), .int .i64 (t % 2)]) ∧ ∃ q, w' = w.drewN q
set_option maxRecDepth 100000 in
set_option maxHeartbeats 4000000 in
theorem back7 (f : Int → Int) (bb : Nat) (t C x y : Int) (free : Bool) (ht : 0 ≤ t ∧ t ≤ 3) (hC : vit.part f x y 4 t = C) (h0 : 0 ≤ C) (hf : free = true ∨ t % 2 = 0) (hbd : ∀ s, -1 ≤ f s ∧ f s ≤ 5000) (w : World) (h : Row4 w bb f) :
    Calls Tryz.prog 80 #[.slice (some ⟨bb, 0, none⟩) 4 4, .int .i64 C, .int .i64 t, .bool free, .int .i64 x, .int .i64 y] w (BackPost f x y t w) := by
  have HR := Lib.hid h
  obtain ⟨g1, g2, g3, g4⟩ := from_ok ht (by rw [hC]; exact h0)
  have HFF := Lib.hid (fun (s : Int) (h1 : 0 ≤ s) (h2 : s < from_ f x y 4 t) (h3 : nst s (t % 2) = t) => from_first ht hC h0 h1 h2 h3)
  rw [hC] at g4
  obtain ⟨b, hb⟩ : ∃ b, t % 2 = b := ⟨_, rfl⟩
  obtain ⟨F, hF⟩ : ∃ F, from_ f x y 4 t = F := ⟨_, rfl⟩
  have hand : bits .and .i64 t 1 = b := by rw [← hb]; exact draw.low_bits 1 (by omega) t
  have HP := Lib.hid (show BackPost f x y t w = fun e w' => e = .returned (.tuple #[.int .i64 F, .int .i64 b]) ∧ ∃ q, w' = w.drewN q by unfold BackPost; rw [hF, hb])
  rw [HP.out]
  rw [hb] at g3 g4 hf HFF
  rw [hF] at g1 g2 g3 g4 HFF
  have HG := Lib.hid (And.intro g1 (And.intro g3 g4))
  have HBD := Lib.hid hbd
  have hb01 : 0 ≤ b ∧ b ≤ 1 := by omega
  have hb2 : (b == 1) = false ∨ (b == 1) = true ∧ free = true := by
    rcases hf with h | h
    · by_cases g : b = 1
      · exact Or.inr ⟨by simpa using g, h⟩
      · exact Or.inl (by simpa using g)
    · exact Or.inl (by rw [h]; rfl)
  clear h hC g1 g3 g4 hbd hF hb hf HP
  rcases hb2 with hb1 | ⟨hb1, rfl⟩
  all_goals
   (go_enter Tryz.func80, Tryz.ntmps80
    go_wp2_with fail
    go_loopw [15] (fun i wr => ∃ s q : Nat, i = .int .i64 s ∧ (s : Int) ≤ F ∧ wr = w.drewN q) (fun i _ => 4 - (intOf i).toNat)
    case atStart => exact ⟨0, 0, rfl, by omega, rfl⟩
    case round =>
      obtain ⟨s, q, rfl, hs, hwq⟩ := hrel
      have HW := Lib.hid hwq
      have hlt2 : (s : Int) < 4 := by omega
      have hc : wr.cell? ⟨bb, s, none⟩ = some (.int .i64 (f s)) := by rw [hwq]; exact HR.out.cell (s := s) (by omega)
      clear hwq
      have hfb := HBD.out s
      by_cases hsF : (s : Int) = F
      · obtain ⟨g1, g3, g4⟩ := HG.out
        rw [← hsF] at g1 g3 g4
        obtain ⟨c, hcc⟩ : ∃ c, f s = c := ⟨_, rfl⟩
        rw [hcc] at hc hfb g1 g4
        have SB := Lib.hid (show Sb s b from ⟨by omega, hb01⟩)
        have hq := bd_in s b x y
        obtain ⟨v, hv⟩ : ∃ v, bd s b x y = v := ⟨_, rfl⟩
        rw [hv] at g4 hq
        replace g4 := g4.symm
        have HQB := Lib.hid (show ∀ (W : World) (n : Nat), Calls Tryz.prog 116 #[.int .i64 s, .int .i64 b, .int .i64 x, .int .i64 y] (W.drewN n) fun e w' => e = .returned (.int .i64 v) ∧ w' = W.drewN n from fun W n => (specBd s b x y _).mono fun e w' ⟨h1, h2⟩ => ⟨by rw [h1, hv], h2.symm⟩)
        have HN := Lib.hid (show nxt s b = t by rw [nxt_yes SB.out, g3])
        have w1 : IntKind.i64.wrap C = C := IntWalk.i64_in _ (by omega)
        have w2 : wrap64 C = C := IntWalk.wrap64_in _ (by omega)
        have HSF := Lib.hid hsF
        clear hcc hv g3 hsF hs
        go_wp2_with fail
        (with_reducible refine (specNext s _ _).mono ?_)
        rw [HN.out]
        rintro e w3 ⟨rfl, rfl⟩
        go_wp2_with fail
        go_quiet ((go_at_call 116; exact Calls.quiet_of_same (HQB.out _ _)))
        go_wp2_with fail
        go_ret2
        exact ⟨by rw [← HSF.out]; rfl, _, by rw [HW.out, World.drewN_drewN]⟩
      · have hsF2 : (s : Int) < F := by omega
        by_cases hneg : f s < 0
        · obtain ⟨c, hcc⟩ : ∃ c, f s = c := ⟨_, rfl⟩
          rw [hcc] at hc hfb hneg
          clear hcc hsF
          go_wp2_with fail
          go_roundw
          case rel => exact ⟨s + 1, q, by go_num, by omega, HW.out⟩
          case measure => simp [intOf]; omega
        · have SB := Lib.hid (show Sb s b from ⟨by omega, hb01⟩)
          obtain ⟨u, hu⟩ : ∃ u, nst s b = u := ⟨_, rfl⟩
          have HN := Lib.hid (show nxt s b = u by rw [nxt_yes SB.out, hu])
          by_cases hut : u = t
          · have hno := HFF.out s (by omega) hsF2 (by rw [hu, hut])
            obtain ⟨c, hcc⟩ : ∃ c, f s = c := ⟨_, rfl⟩
            rw [hcc] at hc hfb hneg hno
            have hq := bd_in s b x y
            obtain ⟨v, hv⟩ : ∃ v, bd s b x y = v := ⟨_, rfl⟩
            rw [hv] at hno hq
            have HQB := Lib.hid (show ∀ (W : World) (n : Nat), Calls Tryz.prog 116 #[.int .i64 s, .int .i64 b, .int .i64 x, .int .i64 y] (W.drewN n) fun e w' => e = .returned (.int .i64 v) ∧ w' = W.drewN n from fun W n => (specBd s b x y _).mono fun e w' ⟨h1, h2⟩ => ⟨by rw [h1, hv], h2.symm⟩)
            obtain ⟨z, hz⟩ : ∃ z, c + v = z := ⟨_, rfl⟩
            have hzC : (z == C) = false := by
              have : ¬ z = C := by rcases hno with h | h <;> omega
              simpa using this
            have w1 : IntKind.i64.wrap z = z := IntWalk.i64_in _ (by omega)
            have w2 : wrap64 z = z := IntWalk.wrap64_in _ (by omega)
            subst hut
            clear hcc hv hno hu hsF
            go_wp2_with fail
            (with_reducible refine (specNext s _ _).mono ?_)
            rw [HN.out]
            rintro e w3 ⟨rfl, rfl⟩
            go_wp2_with fail
            go_quiet ((go_at_call 116; exact Calls.quiet_of_same (HQB.out _ _)))
            go_wp2_with fail
            go_roundw
            case rel => exact ⟨s + 1, _, by go_num, by omega, by rw [HW.out, World.drewN_drewN]⟩
            case measure => simp [intOf]; omega
          · have hut1 : (u == t) = false := by simpa using hut
            have hut2 : (u != t) = true := by simpa using hut
            obtain ⟨c, hcc⟩ : ∃ c, f s = c := ⟨_, rfl⟩
            rw [hcc] at hc hfb hneg
            clear hcc hu hut hsF
            go_wp2_with fail
            (with_reducible refine (specNext s _ _).mono ?_)
            rw [HN.out]
            rintro e w3 ⟨rfl, rfl⟩
            go_wp2_with fail
            go_roundw
            case rel => exact ⟨s + 1, q, by go_num, by omega, HW.out⟩
            case measure => simp [intOf]; omega)
end Go.Proofs.YtdelpepepbkjmaaGreatDoor.vts
end

section
namespace Go.Proofs.YtdelpepepbkjmaaGreatDoor.vts
open Go.RowKit sl harn bm rng cvm cvs vit

abbrev rowV (b : Nat) : Value := .slice (some ⟨b, 0, none⟩) 4 4
/-- The costs of the steps 0 to k. -/
def Cst (zs : List Int) (n lo hi : Nat) (w : World) (v : Value) (k : Nat) : Prop :=
  ∃ (g cap : Nat) (bs : List Nat), v = .slice (some ⟨g, 0, none⟩) (k + 1) cap ∧ w.ownsRow lo 28 1 v (k + 1) (bs.map rowV) ∧ g < hi ∧ hi ≤ w.heap.size ∧ ∀ i, i ≤ k → bs.getD i 0 < hi ∧ Row4 w (bs.getD i 0) (scost zs n i)
section
variable {zs : List Int} {n lo hi k : Nat} {w w' : World} {v : Value}
theorem Cst.same (h : Cst zs n lo hi w v k) (hs : w.heap.size ≤ w'.heap.size) (hb : ∀ q, q < hi → w'.heap[q]? = w.heap[q]?) : Cst zs n lo hi w' v k := by
  obtain ⟨g, cap, bs, rfl, h1, h2, h3, h4⟩ := h
  refine ⟨g, cap, bs, rfl, ⟨h1.1, ?_⟩, h2, by omega, fun i hi' => ⟨(h4 i hi').1, (h4 i hi').2.same (hb _ (h4 i hi').1)⟩⟩
  rcases h1.2 with ⟨e, _⟩ | ⟨g', c, cur, e, g1, g2, g3⟩
  · cases e
  · injection e with e1 e2 e3
    injection e1 with e1; injection e1 with e1 _
    subst e1 e3
    exact Or.inr ⟨g, cap, cur, rfl, g1, by rw [hb g h2]; exact g2, g3⟩
theorem Cst.below (h : Cst zs n lo hi w v k) {B : Nat} (hb : Below B w w') (hB : hi ≤ B) : Cst zs n lo hi w' v k := h.same hb.size fun q hq => hb.block q (by omega)
theorem Cst.wide (h : Cst zs n lo hi w v k) : Cst zs n lo w.heap.size w v k := by
  obtain ⟨g, cap, bs, rfl, h1, h2, h3, h4⟩ := h
  exact ⟨g, cap, bs, rfl, h1, by omega, Nat.le_refl _, fun i hi' => ⟨by have := (h4 i hi').1; omega, (h4 i hi').2⟩⟩
theorem Cst.form (h : Cst zs n lo hi w v k) : ∃ g cap, v = .slice (some ⟨g, 0, none⟩) (k + 1) cap := by
  obtain ⟨g, cap, bs, rfl, _⟩ := h
  exact ⟨g, cap, rfl⟩
theorem Cst.at_ {g m cap : Nat} (h : Cst zs n lo hi w (.slice (some ⟨g, 0, none⟩) m cap) k) {i : Nat} (hi' : i ≤ k) : ∃ b, w.cell? ⟨g, i, none⟩ = some (.slice (some ⟨b, 0, none⟩) 4 4) ∧ Row4 w b (scost zs n i) ∧ b < hi := by
  obtain ⟨g', cap', bs, e, h1, h2, h3, h4⟩ := h
  injection e with e1 e2 e3
  injection e1 with e1; injection e1 with e1 _
  subst e1 e2 e3
  have hl : bs.length = k + 1 := by have := h1.1; simpa using this
  refine ⟨bs.getD i 0, ?_, (h4 i hi').2, (h4 i hi').1⟩
  rw [h1.cellAt i (by omega), List.getElem?_map, List.getD_eq_getElem?_getD, List.getElem?_eq_getElem (show i < bs.length by omega)]
  rfl
theorem Cst.start (zs : List Int) (n : Nat) (w : World) : Cst zs n w.heap.size (w.heap.size + 2) ((w.alloc (.cells #[.int .i64 0, .int .i64 (-1), .int .i64 (-1), .int .i64 (-1)] 3)).alloc (.cells #[rowV w.heap.size] 28)) (.slice (some ⟨w.heap.size + 1, 0, none⟩) 1 1) 0 := by
  have hr : Row4 (w.alloc (.cells #[.int .i64 0, .int .i64 (-1), .int .i64 (-1), .int .i64 (-1)] 3)) w.heap.size (scost zs n 0) := (Row4.made w 0 (-1) (-1) (-1)).congr fun t ht => by
    show _ = if t = 0 then 0 else -1
    split
    · rfl
    · split
      · rfl
      · split <;> rfl
  refine ⟨w.heap.size + 1, 1, [w.heap.size], rfl, ?_, by omega, by simp, fun i hi => ?_⟩
  · have := World.ownsRow_lit (e := 28) (size := 1) (base := w.heap.size) (w.alloc (.cells #[.int .i64 0, .int .i64 (-1), .int .i64 (-1), .int .i64 (-1)] 3)) #[rowV w.heap.size] 1 (by simp) (by unfold maxLen; omega) rfl
    simpa using this
  · obtain rfl : i = 0 := by omega
    exact ⟨by simp, hr.same (Below.heap_alloc _ _ _ (by simp))⟩
theorem rowInfo : (Tryz.prog.info? 28).map (fun i => (i.zero, i.size, i.bytes)) = some (some (.slice none 0 0), 1, 24) := by kernel_rfl
theorem int_ne_row : (3 : TypeId) ≠ 28 := by decide
theorem Cst.push (h : Cst zs n lo hi w v k) (hk : k ≤ 100000) {q nb : Nat} (hq : w.cell? ⟨q, 0, none⟩ = some (rowV nb)) (hr : Row4 w nb (scost zs n (k + 1))) (hlo : lo ≤ w.heap.size) (ty : TypeId) :
    ∃ v' w', (Builtin.append_ #[98, 98] ty #[v, .slice (some ⟨q, 0, none⟩) 1 1]).run Tryz.prog w = .ok v' w' ∧ Cst zs n lo w'.heap.size w' v' (k + 1) ∧ Below lo w w' := by
  obtain ⟨i0, hi0, hz0, hz1, hz2⟩ := info_parts rowInfo
  have hlohi := h
  obtain ⟨g, cap, bs, rfl, h1, h2, h3, h4⟩ := h
  have hl : bs.length = k + 1 := by have := h1.1; simpa using this
  obtain ⟨v', w', hrun, g1, g2, _, g3⟩ := run_append_own_at (P := Tryz.prog) w lo 98 ty 28 i0 (.slice none 0 0) 1 24 Tryz.underlying98 hi0 hz0 hz1 hz2 rfl (by omega) _ (k + 1) _ h1 ⟨q, 0, none⟩ 1 1 [rowV nb] rfl
    (fun j u hu => by
      have hj : j = 0 := by
        have := (List.getElem?_eq_some_iff.1 hu).1
        simpa using this
      subst hj
      have : rowV nb = u := by simpa using hu
      rw [← this]
      have e2 : (⟨q, 0, none⟩ : Addr).add 0 = ⟨q, 0, none⟩ := by simp [Addr.add]
      rw [e2]; exact hq)
    (fun u hu => by
      have : u = rowV nb := by simpa using hu
      rw [this]; rfl) (by unfold maxLen; omega) (by omega) hlo
  have hgb : ∃ cur, w.heap[g]? = some (.cells cur 28 (0, 0)) ∧ lo ≤ g := by
    rcases h1.2 with ⟨e, _⟩ | ⟨g', c, cur, e, k1, k2, k3⟩
    · cases e
    · injection e with e1 e2 e3
      injection e1 with e1; injection e1 with e1 _
      subst e1
      exact ⟨cur, k2, k1⟩
  obtain ⟨cur, hcur, hlog⟩ := hgb
  have hne : ∀ b f, Row4 w b f → b ≠ g := by
    intro b f hb e
    subst e
    unfold Row4 at hb
    rw [hb] at hcur
    simp only [Option.some.injEq, Obj.cells.injEq] at hcur
    exact int_ne_row hcur.2.1
  have hkeep : ∀ b f, Row4 w b f → Row4 w' b f := fun b f hb => hb.same (g2.block b hb.lt (by
    intro e
    have e' : some b = some g := e
    injection e' with e'
    exact hne b f hb e'))
  have hpos := g1.form (by omega)
  have hB : Below lo w w' := (Below.refl lo w).grown g2 hlo fun q hq => by
    have : some g = some q := hq
    injection this with this
    omega
  rcases g1.2 with ⟨_, e⟩ | ⟨g', c', cur', rfl, k1, k2, k3⟩
  · omega
  refine ⟨_, w', hrun, ⟨g', c', bs ++ [nb], rfl, by simpa using g1, lt_of_block k2, Nat.le_refl _, fun i hi' => ?_⟩, hB⟩
  rcases Nat.lt_or_ge i (k + 1) with hlt | hge
  · have e : (bs ++ [nb]).getD i 0 = bs.getD i 0 := by rw [List.getD_eq_getElem?_getD, List.getElem?_append_left (by omega), List.getD_eq_getElem?_getD]
    rw [e]
    have := hkeep _ _ (h4 i (by omega)).2
    exact ⟨this.lt, this⟩
  · obtain rfl : i = k + 1 := by omega
    have e : (bs ++ [nb]).getD (k + 1) 0 = nb := by rw [List.getD_eq_getElem?_getD, List.getElem?_append_right (by omega), hl, Nat.sub_self]; rfl
    rw [e]
    have := hkeep _ _ hr
    exact ⟨this.lt, this⟩
end
theorem cell_new (w : World) (v : Value) (E : TypeId) : (w.alloc (.cells #[v] E)).cell? ⟨w.heap.size, 0, none⟩ = some v := by simp
theorem wpList_push (w : World) {ops : Array Oper} {rest : List Oper} {o : Oper} {a : Act} {Q : Exit → Act → World → Prop} (hg : o.guard = none) (s x : Operand)
    (hop : o.op = .call { callee := .builtin .append, args := #[s, x], argTypes := #[98, 98] })
    {zs : List Int} {n lo hi k q nb : Nat} {v : Value} (hs : a.eval s = v) (hx : a.eval x = .slice (some ⟨q, 0, none⟩) 1 1) (h : Cst zs n lo hi w v k) (hk : k ≤ 100000) (hq : w.cell? ⟨q, 0, none⟩ = some (rowV nb)) (hr : Row4 w nb (scost zs n (k + 1))) (hlo : lo ≤ w.heap.size)
    (hK : ∀ v' w', Cst zs n lo w'.heap.size w' v' (k + 1) → Below lo w w' → wpList Tryz.prog ops Q rest (a.put o.dst v') w') : wpList Tryz.prog ops Q (o :: rest) a w := by
  refine wpList_plain hg fun K hK' => ?_
  obtain ⟨v', w', hrun, g1, g2⟩ := h.push hk hq hr hlo o.type
  unfold Oper.wp execOp
  simp only [hop, resolve, invoke, builtin, Sem.run_bind, Sem.run_pure, Result.andThen_ok, List.map_toArray, List.map_cons, List.map_nil, hs, hx, hrun]
  exact hK' _ _ (hK v' w' g1 g2)
end Go.Proofs.YtdelpepepbkjmaaGreatDoor.vts
end

section
namespace Go.Proofs.YtdelpepepbkjmaaGreatDoor.vts
open Go.RowKit sl harn bm rng cvm cvs vit

set_option maxRecDepth 100000 in
set_option maxHeartbeats 8000000 in
theorem costs7 (zs : List Int) (n : Nat) (hn : n ≤ 1000) (lo hi : Nat) (A : Option Addr) (len cap : Nat) (hlen : len = 2 * (n + 2)) (w : World) (h : Rd .i64 w lo hi A len cap zs) :
    Calls Tryz.prog 79 #[.slice A len cap, .int .i64 n] w fun e w' => ∃ v, e = .returned v ∧ Cst zs n w.heap.size w'.heap.size w' v (n + 2) ∧ Below w.heap.size w w' := by
  have HR := Lib.hid h
  have hb := h.cap_
  have HNM := Lib.hid hlen
  clear h hlen
  go_enter Tryz.func79, Tryz.ntmps79
  go_wp2_with fail
  go_loopw [5, 6] (fun v i wr => ∃ k : Nat, i = .int .i64 k ∧ k ≤ n + 2 ∧ Cst zs n w.heap.size wr.heap.size wr v k ∧ Below w.heap.size w wr) (fun _ i _ => n + 2 - (intOf i).toNat)
  case atStart => exact ⟨0, rfl, by omega, by have := (Cst.start zs n w).wide; exact this, ((Below.refl _ _).alloc (Nat.le_refl _) _).alloc (by simp) _⟩
  case round =>
    obtain ⟨w1, rfl⟩ : ∃ w1, w1 = wr := ⟨wr, rfl⟩
    obtain ⟨k, rfl, hk, hC, hB⟩ := hrel
    obtain ⟨g, cp, rfl⟩ := hC.form
    have CK := Lib.hid hC
    have BK := Lib.hid hB
    clear hC hB
    by_cases hlt : k < n + 2
    · have hlt2 : (k : Int) < (n : Int) + 2 := by omega
      have R0 := Lib.hid ((Row4.made w1 (-1) (-1) (-1) (-1)).congr (g := nx zs n k 0 0) fun t ht => by rw [nx_start zs n k ht]; split <;> (try split) <;> (try split) <;> rfl)
      have B0 := Lib.hid ((Below.refl w1.heap.size w1).alloc (Nat.le_refl _) (.cells #[.int .i64 (-1), .int .i64 (-1), .int .i64 (-1), .int .i64 (-1)] 3))
      go_wp2_with fail
      go_loopw [8] (fun i w2 => ∃ s : Nat, i = .int .i64 s ∧ s ≤ 4 ∧ Row4 w2 w1.heap.size (nx zs n k s 0) ∧ Below w1.heap.size w1 w2) (fun i _ => 4 - (intOf i).toNat)
      case atStart => exact ⟨0, rfl, by omega, R0.out, B0.out⟩
      case round =>
        clear R0 B0
        obtain ⟨w2, rfl⟩ : ∃ w2, w2 = wr := ⟨wr, rfl⟩
        obtain ⟨s, rfl, hs, hR, hB⟩ := hrel
        have RS := Lib.hid hR
        have BS := Lib.hid hB
        clear hR hB
        by_cases hls : s < 4
        · have hls2 : (s : Int) < 4 := by omega
          go_wp2_with fail
          go_loopw [9] (fun i w3 => ∃ b : Int, i = .int .i64 b ∧ (0 ≤ b ∧ b ≤ 2) ∧ Row4 w3 w1.heap.size (nx zs n k s b) ∧ Below w1.heap.size w1 w3) (fun i _ => 2 - (intOf i).toNat)
          case atStart => exact ⟨0, rfl, by omega, RS.out, BS.out⟩
          case round =>
            clear RS BS
            obtain ⟨w3, rfl⟩ : ∃ w3, w3 = wr := ⟨wr, rfl⟩
            obtain ⟨b, rfl, hb2, hR, hB⟩ := hrel
            have RB := Lib.hid hR
            have BB := Lib.hid hB
            clear hR hB
            by_cases hlb : b < 2
            · obtain ⟨bk, hck, hrk, hbk⟩ := (CK.out.below BB.out (Nat.le_refl _)).at_ (Nat.le_refl k)
              have hcs := hrk.cell hls
              have hci := scost_in zs n k s
              obtain ⟨c, hc⟩ : ∃ c, scost zs n k s = c := ⟨_, rfl⟩
              rw [hc] at hcs hci
              have HC := Lib.hid hc
              have hk1 : (k : Int) < (k : Int) + 1 := by omega
              clear hc hrk hbk
              by_cases hneg : c < 0
              · have RN := Lib.hid (RB.out.congr (g := nx zs n k s (b + 1)) fun t ht => nx_none zs n k ht (by rw [HC.out]; exact hneg))
                clear RB
                go_wp2_with fail
                go_roundw
                case rel => exact ⟨b + 1, by go_num, by omega, RN.out, BB.out⟩
                case measure => simp [intOf]; omega
              · by_cases htl : b = 1 ∧ n ≤ k
                · obtain ⟨rfl, hnk⟩ := htl
                  have hnk2 : (n : Int) ≤ k := by omega
                  have RN := Lib.hid (RB.out.congr (g := nx zs n k s 2) fun t ht => nx_tail zs n k hnk)
                  clear RB
                  go_wp2_with fail
                  go_roundw
                  case rel => exact ⟨2, by go_num, by omega, RN.out, BB.out⟩
                  case measure => simp [intOf]
                · have hg : (b == 1) = false ∨ (b == 1) = true ∧ (k : Int) < n := by
                    by_cases g : b = 1
                    · exact Or.inr ⟨by simpa using g, by have : ¬ n ≤ k := fun h => htl ⟨g, h⟩; omega⟩
                    · exact Or.inl (by simpa using g)
                  have hf : b = 0 ∨ k < n := by
                    rcases hg with g | ⟨g, h⟩
                    · left
                      have : ¬ b = 1 := by simpa using g
                      omega
                    · right; omega
                  have SB := Lib.hid (show Sb s b from ⟨by omega, by omega⟩)
                  obtain ⟨r, hr⟩ : ∃ r : Nat, 2 * k = r := ⟨_, rfl⟩
                  obtain ⟨r1, hr1⟩ : ∃ r1 : Nat, r + 1 = r1 := ⟨_, rfl⟩
                  obtain ⟨ab, off, rfl, _, hab, hx0⟩ := (HR.out.below ((BK.out.trans (BB.out.mono BK.out.size)))).at_ (i := r) (by rw [HNM.out]; omega)
                  obtain ⟨ab', off', e, _, _, hy0⟩ := (HR.out.below ((BK.out.trans (BB.out.mono BK.out.size)))).at_ (i := r1) (by rw [HNM.out]; omega)
                  injection e with e; injection e with e1 e2 e3
                  subst e1 e2
                  obtain ⟨x, hx⟩ : ∃ x, zs.getD r 0 = x := ⟨_, rfl⟩
                  obtain ⟨y, hy⟩ : ∃ y, zs.getD r1 0 = y := ⟨_, rfl⟩
                  rw [hx] at hx0
                  rw [hy] at hy0
                  have HX := Lib.hid (show zs.getD (2 * k) 0 = x by rw [hr]; exact hx)
                  have HY := Lib.hid (show zs.getD (2 * k + 1) 0 = y by rw [hr, hr1]; exact hy)
                  have hi1 : (r : Int) < len := by rw [HNM.out]; omega
                  have hi2 : (r1 : Int) < len := by rw [HNM.out]; omega
                  have w1' : IntKind.i64.wrap (r : Int) = r := IntWalk.i64_in _ (by omega)
                  have w2' : IntKind.i64.wrap (r1 : Int) = r1 := IntWalk.i64_in _ (by omega)
                  have w3' : 2 * (k : Int) = r := by omega
                  have w4' : (r : Int) + 1 = r1 := by omega
                  have hq := bd_in s b x y
                  obtain ⟨q, hq'⟩ : ∃ q, bd s b x y = q := ⟨_, rfl⟩
                  rw [hq'] at hq
                  have HQB := Lib.hid (show ∀ (W : World) (m : Nat), Calls Tryz.prog 116 #[.int .i64 s, .int .i64 b, .int .i64 x, .int .i64 y] (W.drewN m) fun e w' => e = .returned (.int .i64 q) ∧ w' = W.drewN m from fun W m => (specBd s b x y _).mono fun e w' ⟨h1, h2⟩ => ⟨by rw [h1, hq'], h2.symm⟩)
                  obtain ⟨d, hd⟩ : ∃ d, c + q = d := ⟨_, rfl⟩
                  have w5' : IntKind.i64.wrap d = d := IntWalk.i64_in _ (by omega)
                  have w6' : wrap64 d = d := IntWalk.wrap64_in _ (by omega)
                  have hdb : 0 ≤ d ∧ d ≤ 5000 := by omega
                  obtain ⟨t, ht⟩ : ∃ t : Nat, nst s b = t := ⟨(nst s b).toNat, by have := nst_in s b; omega⟩
                  have ht4 : t < 4 := by have := nst_in s b; omega
                  have ht5 : (t : Int) < 4 := by omega
                  have HN := Lib.hid (show nxt s b = t by rw [nxt_yes SB.out, ht])
                  have hpb := nx_in zs n k s b t
                  have HBT := Lib.hid (nx_better zs n k (d := d) SB.out hf (by rw [HC.out]; omega) (by rw [HC.out, HX.out, HY.out, hq']; exact hd))
                  have HWR := Lib.hid (nx_worse zs n k (d := d) SB.out hf (by rw [HC.out]; omega) (by rw [HC.out, HX.out, HY.out, hq']; exact hd))
                  rw [ht] at HBT HWR
                  obtain ⟨P, hP⟩ : ∃ P, nx zs n k s b t = P := ⟨_, rfl⟩
                  rw [hP] at hpb HBT HWR
                  have hfr : ∀ m, (w3.drewN m).frozen? ⟨w1.heap.size, t, none⟩ = false := fun m => RB.out.free t
                  have hcP := RB.out.cell ht4
                  rw [hP] at hcP
                  have HF := Lib.hid hfr
                  clear hx hy e3 hab hr hr1 hq' ht hP hf htl hfr
                  rcases hg with hb1 | ⟨hb1, hkn⟩
                  all_goals
                   (go_wp2_with fail
                    go_quiet ((go_at_call 116; exact Calls.quiet_of_same (HQB.out _ _)))
                    go_wp2_with fail
                    (with_reducible refine (specNext s b _).mono ?_)
                    rw [HN.out]
                    rintro e w7 ⟨rfl, rfl⟩
                    have hfr := HF.out nq
                    have BN := Lib.hid (show Below w1.heap.size w1 ((w3.drewN nq).setCell ⟨w1.heap.size, t, none⟩ (.int .i64 d)) from Below.setCell (w := w3.drewN nq) (p := ⟨w1.heap.size, t, none⟩) ⟨BB.out.os, BB.out.tape, BB.out.output, BB.out.size, BB.out.block⟩ (Nat.le_refl _) (.int .i64 d))
                    have BM := Lib.hid (show Below w1.heap.size w1 (w3.drewN nq) from ⟨BB.out.os, BB.out.tape, BB.out.output, BB.out.size, BB.out.block⟩)
                    have RD := Lib.hid (show Row4 (w3.drewN nq) w1.heap.size (nx zs n k s b) from RB.out)
                    clear HF RB BB hck hcs hx0 hy0 w1' w2' w3' w4' w5' w6' hd hi1 hi2
                    by_cases hP0 : P < 0
                    · have RN := Lib.hid ((RD.out.set ht4 d).congr (g := nx zs n k s (b + 1)) fun t ht => HBT.out (Or.inl hP0) ht)
                      clear RD
                      go_wp2_with fail
                      go_roundw
                      case rel => exact ⟨b + 1, by go_num, by omega, RN.out, BN.out⟩
                      case measure => simp [intOf]; omega
                    · by_cases hdP : d < P
                      · have RN := Lib.hid ((RD.out.set ht4 d).congr (g := nx zs n k s (b + 1)) fun t ht => HBT.out (Or.inr hdP) ht)
                        clear RD
                        go_wp2_with fail
                        go_roundw
                        case rel => exact ⟨b + 1, by go_num, by omega, RN.out, BN.out⟩
                        case measure => simp [intOf]; omega
                      · have RN := Lib.hid (RD.out.congr (g := nx zs n k s (b + 1)) fun t ht => HWR.out (by intro g; rcases g with g | g; exact hP0 g; exact hdP g) ht)
                        clear RD
                        go_wp2_with fail
                        go_roundw
                        case rel => exact ⟨b + 1, by go_num, by omega, RN.out, BM.out⟩
                        case measure => simp [intOf]; omega)
            · obtain rfl : b = 2 := by omega
              have RN := Lib.hid (RB.out.congr (g := nx zs n k ((s + 1 : Nat) : Int) 0) fun t ht => nx_next zs n k s t)
              clear RB
              go_wp2_with fail
              go_roundw
              case rel => exact ⟨s + 1, by go_num, by omega, RN.out, BB.out⟩
              case measure => simp [intOf]; omega
        · have hls2 : ¬ (s : Int) < 4 := by omega
          obtain rfl : s = 4 := by omega
          have RE := Lib.hid (RS.out.congr (g := scost zs n (k + 1)) fun t _ => nx_end zs n k t)
          clear RS
          go_wp2_with (at_builtin; refine wpList_push _ rfl _ _ rfl rfl rfl ((CK.out.below BS.out (Nat.le_refl _)).below ((Below.refl _ _).alloc (Nat.le_refl _) _) BS.out.size) (by omega) (cell_new _ _ _) (RE.out.same (Below.heap_alloc _ _ _ RE.out.lt)) (by have := BK.out.size; have := BS.out.size; simp; omega) ?_; intro v5 w5 hC5 hB5; have C5 := Lib.hid hC5; have B5 := Lib.hid ((BK.out.trans (BS.out.mono BK.out.size)).alloc (Nat.le_trans BK.out.size BS.out.size) _ |>.trans hB5); clear hC5 hB5)
          go_wp2_with fail
          go_roundw
          case rel => exact ⟨k + 1, by go_num, by omega, C5.out, B5.out⟩
          case measure => simp [intOf]; omega
    · have hlt2 : ¬ (k : Int) < (n : Int) + 2 := by omega
      obtain rfl : k = n + 2 := by omega
      go_wp2_with fail
      go_ret
      exact ⟨_, rfl, CK.out, BK.out⟩
end Go.Proofs.YtdelpepepbkjmaaGreatDoor.vts
end

section
namespace Go.Proofs.YtdelpepepbkjmaaGreatDoor.vts
open Go.RowKit sl harn bm rng cvm cvs vit

/-- What a decoder hands back. -/
def VitPostS (t : List Int × Int) (w : World) (e : Ending) (w' : World) : Prop :=
  ∃ A m c, e = .returned (.tuple #[.slice A m c, .int .i64 t.2]) ∧ Ow 3 .i64 w' w.heap.size w'.heap.size A m c t.1 ∧ Below w.heap.size w w'
theorem Bk.drewN {E : TypeId} {kd : IntKind} {bo : Nat} {w : World} {n j : Nat} {L : List Int} (h : Bk E kd bo w n j L) (q : Nat) : Bk E kd bo (w.drewN q) n j L := h
theorem Below.drewN {B : Nat} {w w' : World} (h : Below B w w') (q : Nat) : Below B w (w'.drewN q) := ⟨h.os, h.tape, h.output, h.size, h.block⟩
set_option maxRecDepth 100000 in
set_option maxHeartbeats 8000000 in
theorem specVit (zs : List Int) (lo hi : Nat) (A : Option Addr) (n cap : Nat) (w : World) (h : Rd .i64 w lo hi A n cap zs) :
    Calls Tryz.prog 42 #[.slice A n cap] w (VitPostS (vit zs) w) := by
  obtain ⟨i0, hi0, hz0, hz1, hz2⟩ := info_parts intInfo
  have HI0 := Lib.hid (And.intro hi0 (And.intro hz0 (And.intro hz1 hz2)))
  have HL := Lib.hid h.len
  have hb := h.cap_
  have HW := Lib.hid (show (Lit.int .i64 (n : Int)).wf = true from WalkArith.wf_i64 (by omega))
  have HR := Lib.hid h
  clear h hi0 hz0 hz1 hz2
  rcases vit_cases zs with ⟨m, hm, hs⟩ | hno
  · have hm2 := inl_nat hm
    have HV := Lib.hid (vit_yes hm hs)
    have HZ := Lib.hid hm2.1
    have HM := Lib.hid (show inl n = m by rw [← HL.out]; exact hm)
    have HS := Lib.hid hs
    have hm3 := hm2.2
    have HNM := Lib.hid (show n = 2 * (m + 2) by rw [← HL.out]; exact hm2.1)
    clear hm hs hm2
    go_enter Tryz.func42, Tryz.ntmps42
    go_wp2_with fail
    (with_reducible refine (specInl _ HW.out _).mono ?_)
    rw [HM.out]
    rintro e w1 ⟨rfl, rfl⟩
    go_wp2_with fail
    (with_reducible refine (bits.specIss zs _ _ A n cap _ HR.out).mono ?_)
    rw [HS.out]
    rintro e w1 ⟨rfl, rfl⟩
    go_wp2_with fail
    (with_reducible refine (costs7 zs m hm3 _ _ A n cap HNM.out _ HR.out).mono ?_)
    rintro e w1 ⟨v, rfl, hC, hB⟩
    obtain ⟨g, cp, rfl⟩ := hC.form
    have C1 := Lib.hid hC
    have B1 := Lib.hid hB
    clear hC hB
    have hmk := fun W => run_make1 (P := Tryz.prog) 28 3 i0 _ Tryz.underlying28 HI0.out.1 HI0.out.2.1 HI0.out.2.2.1 m (by rw [HI0.out.2.2.2]; omega) (by omega) W
    have K0 := Lib.hid (Bk.start 3 .i64 w1 m (j := m + 2) (by omega) (path zs (m + 2) 0) #[.int .i64 0])
    have B0 := Lib.hid ((Below.refl w1.heap.size w1).alloc (Nat.le_refl _) (.cells (madeCells #[.int .i64 0] m) 3))
    go_wp2_with fail
    clear hmk
    go_loopw [7, 8] (fun st i wr => ∃ i' t : Int, st = .int .i64 t ∧ i = .int .i64 i' ∧ (-1 ≤ i' ∧ i' ≤ m + 1) ∧ On zs (m + 2) (i' + 1).toNat t ∧ Bk 3 .i64 w1.heap.size wr m (i' + 1).toNat (path zs (m + 2) 0) ∧ Below w1.heap.size w1 wr) (fun _ i _ => (intOf i + 1).toNat)
    case atStart =>
      have e : ((m : Int) + 1 + 1).toNat = m + 2 := by omega
      exact ⟨(m : Int) + 1, 0, rfl, by go_num, by omega, by rw [e]; exact On.start HZ.out, by rw [e]; exact K0.out, B0.out⟩
    case round =>
      clear K0 B0
      obtain ⟨w2, rfl⟩ : ∃ w2, w2 = wr := ⟨wr, rfl⟩
      obtain ⟨i', t, rfl, rfl, hi', hon, hbk, hbl⟩ := hrel
      by_cases hge : 0 ≤ i'
      · obtain ⟨j, rfl⟩ := Int.eq_ofNat_of_zero_le hge
        have ej : ((j : Int) + 1).toNat = j + 1 := by omega
        rw [ej] at hon hbk
        have ht := hon.1.1
        obtain ⟨t, rfl⟩ := Int.eq_ofNat_of_zero_le ht.1
        have ht4 : t < 4 := by omega
        have ht5 : (t : Int) < 4 := by omega
        obtain ⟨s1, s2, s3, s4⟩ := hon.spec HZ.out
        obtain ⟨hnx, hbit⟩ := hon.next
        have K2 := Lib.hid hbk
        have B2 := Lib.hid hbl
        obtain ⟨j1, hj1⟩ : ∃ j1 : Nat, j + 1 = j1 := ⟨_, rfl⟩
        obtain ⟨r, hr⟩ : ∃ r : Nat, 2 * j = r := ⟨_, rfl⟩
        obtain ⟨r1, hr1⟩ : ∃ r1 : Nat, r + 1 = r1 := ⟨_, rfl⟩
        have CW := C1.out.below B2.out (Nat.le_refl _)
        obtain ⟨ba, ha1, ha2, _⟩ := CW.at_ (i := j) (by omega)
        obtain ⟨bc, hc1, hc2, _⟩ := CW.at_ (i := j1) (by omega)
        have hct := hc2.cell ht4
        have RA := Lib.hid ha2
        obtain ⟨ab, off, rfl, _, _, hx0⟩ := (HR.out.below (B1.out.trans (B2.out.mono B1.out.size))).at_ (i := r) (by rw [HNM.out]; omega)
        obtain ⟨ab', off', e, _, _, hy0⟩ := (HR.out.below (B1.out.trans (B2.out.mono B1.out.size))).at_ (i := r1) (by rw [HNM.out]; omega)
        injection e with e; injection e with e1 e2 e3
        subst e1 e2
        obtain ⟨x, hx⟩ : ∃ x, zs.getD r 0 = x := ⟨_, rfl⟩
        obtain ⟨y, hy⟩ : ∃ y, zs.getD r1 0 = y := ⟨_, rfl⟩
        rw [hx] at hx0
        rw [hy] at hy0
        obtain ⟨C, hCC⟩ : ∃ C, scost zs m j1 t = C := ⟨_, rfl⟩
        obtain ⟨p, hp⟩ : ∃ p, pre zs j t = p := ⟨_, rfl⟩
        obtain ⟨v, hv⟩ : ∃ v, (t : Int) % 2 = v := ⟨_, rfl⟩
        rw [hr, hr1, hx, hy, hj1, hCC] at s1
        rw [hj1, hCC] at s2
        rw [hr, hr1, hx, hy, hp] at s3
        rw [hCC] at hct
        rw [hv] at hbit
        rw [hp] at hnx
        have ON := Lib.hid hnx
        have HBIT := Lib.hid hbit
        have HQB := Lib.hid (show ∀ (free : Bool), (free = true ∨ (t : Int) % 2 = 0) → ∀ (q : Nat), Calls Tryz.prog 80 #[.slice (some ⟨ba, 0, none⟩) 4 4, .int .i64 C, .int .i64 t, .bool free, .int .i64 x, .int .i64 y] (w2.drewN q) fun e w' => e = .returned (.tuple #[.int .i64 p, .int .i64 v]) ∧ ∃ l, w' = (w2.drewN q).drewN l from fun free hf q =>
          (back7 (scost zs m j) ba t C x y free ht s1 s2 hf (fun u => by have := scost_in zs m j u; omega) (w2.drewN q) RA.out).mono fun e w' ⟨h1, h2⟩ => ⟨by rw [h1, s3, hv], h2⟩)
        have S4 := Lib.hid s4
        have hi1 : (r : Int) < n := by rw [HNM.out]; omega
        have hi2 : (r1 : Int) < n := by rw [HNM.out]; omega
        have hi3 : (j : Int) < (m : Int) + 2 + 1 := by omega
        have hi4 : (j1 : Int) < (m : Int) + 2 + 1 := by omega
        have w1' : IntKind.i64.wrap (r : Int) = r := IntWalk.i64_in _ (by omega)
        have w2' : IntKind.i64.wrap (r1 : Int) = r1 := IntWalk.i64_in _ (by omega)
        have w3' : 2 * (j : Int) = r := by omega
        have w4' : (r : Int) + 1 = r1 := by omega
        have w5' : (j : Int) + 1 = j1 := by omega
        have w6' : IntKind.i64.wrap (j1 : Int) = j1 := IntWalk.i64_in _ (by omega)
        clear hx hy e3 hr hr1 hCC hp hv s1 s2 s3 s4 hon hbk hbl ha2 hc2 CW hnx hbit hj1 ej
        by_cases hjm : j < m
        · have hjm2 : (j : Int) < m := by omega
          have HQ := Lib.hid (HQB.out true (Or.inl rfl))
          go_wp2_with fail
          go_quiet ((go_at_call 80; exact Calls.quiet_of (HQ.out _)))
          obtain ⟨v0, hv0⟩ := (Bk.drewN K2.out nq).cell hjm
          have hfr := (Bk.drewN K2.out nq).free j
          have KN := Lib.hid ((Bk.drewN K2.out nq).step hjm HBIT.out)
          have BN := Lib.hid ((Below.drewN B2.out nq).setCell (p := ⟨w1.heap.size, j, none⟩) (Nat.le_refl _) (.int .i64 v))
          have ej : ((j : Int) - 1 + 1).toNat = j := by omega
          have ON2 := Lib.hid (show On zs (m + 2) ((j : Int) - 1 + 1).toNat p by rw [ej]; exact ON.out)
          have KN2 := Lib.hid (show Bk 3 .i64 w1.heap.size _ m ((j : Int) - 1 + 1).toNat (path zs (m + 2) 0) by rw [ej]; exact KN.out)
          clear w1' w2' w3' w4' w5' w6' hx0 hy0 ha1 hc1 hct KN K2 B2 ej
          go_wp2_with fail
          go_roundw
          case rel => exact ⟨(j : Int) - 1, p, rfl, rfl, by omega, ON2.out, KN2.out, BN.out⟩
          case measure => simp [intOf]
        · have hjm2 : ¬ (j : Int) < m := by omega
          have HQ := Lib.hid (HQB.out false (Or.inr (by rcases S4.out with h | h; exact absurd h hjm; exact h)))
          go_wp2_with fail
          go_quiet ((go_at_call 80; exact Calls.quiet_of (HQ.out _)))
          have KN := Lib.hid ((Bk.drewN K2.out nq).skip (by omega))
          have BN := Lib.hid (Below.drewN B2.out nq)
          have ej : ((j : Int) - 1 + 1).toNat = j := by omega
          have ON2 := Lib.hid (show On zs (m + 2) ((j : Int) - 1 + 1).toNat p by rw [ej]; exact ON.out)
          have KN2 := Lib.hid (show Bk 3 .i64 w1.heap.size _ m ((j : Int) - 1 + 1).toNat (path zs (m + 2) 0) by rw [ej]; exact KN.out)
          clear w1' w2' w3' w4' w5' w6' hx0 hy0 ha1 hc1 hct KN K2 B2 ej
          go_wp2_with fail
          go_roundw
          case rel => exact ⟨(j : Int) - 1, p, rfl, rfl, by omega, ON2.out, KN2.out, BN.out⟩
          case measure => simp [intOf]
      · obtain rfl : i' = -1 := by omega
        obtain ⟨e0, he0⟩ : ∃ e0 : Nat, m + 2 = e0 := ⟨_, rfl⟩
        have CW := C1.out.below hbl (Nat.le_refl _)
        obtain ⟨ba, ha1, ha2, _⟩ := CW.at_ (i := e0) (by omega)
        have hc0 := ha2.cell (s := 0) (by omega)
        rw [← he0, show ((0 : Nat) : Int) = 0 from rfl, scost_end] at hc0
        obtain ⟨c, hcc⟩ : ∃ c, cost zs (m + 2) 0 = c := ⟨_, rfl⟩
        rw [hcc] at hc0 HV
        have K2 := Lib.hid (show Bk 3 .i64 w1.heap.size w2 m 0 (path zs (m + 2) 0) from hbk)
        have B2 := Lib.hid hbl
        have w1' : (m : Int) + 2 = e0 := by omega
        have w2' : IntKind.i64.wrap (e0 : Int) = e0 := IntWalk.i64_in _ (by omega)
        have hi3 : (e0 : Int) < (m : Int) + 2 + 1 := by omega
        have hi4 : (e0 : Int) < (e0 : Int) + 1 := by omega
        clear hcc he0 hon hbk hbl CW ha2
        go_wp2_with fail
        go_quiet (fail)
        clear w1' w2' hi3 hi4 ha1 hc0
        go_wp2_with fail
        go_ret2
        rw [HV.out]
        exact ⟨_, m, m, rfl, (Bk.drewN K2.out nq).done (dec_len zs m) (fun i hi => dec_at zs hi) (Wf.of_i64 fun z hz => by have := isb_all (dec_bit HZ.out) z hz; omega) (by unfold maxLen; omega) B1.out.size, B1.out.trans ((Below.drewN B2.out nq).mono B1.out.size)⟩
  · have HV := Lib.hid (vit_no hno)
    by_cases h0 : inl zs.length < 0
    · have HI := Lib.hid (show inl n = -1 by rw [← HL.out]; have := inl_in zs.length; omega)
      clear hno h0
      go_enter Tryz.func42, Tryz.ntmps42
      go_wp2_with fail
      (with_reducible refine (specInl _ HW.out _).mono ?_)
      rw [HI.out]
      rintro e w1 ⟨rfl, rfl⟩
      go_wp2_with fail
      go_ret2
      rw [HV.out]
      exact ⟨_, _, _, rfl, (Ow.empty _ _ _).up, (Below.refl _ _).alloc (Nat.le_refl _) _⟩
    · have hs : inr zs 0 2 = false := by
        cases h : inr zs 0 2
        · rfl
        · exact absurd ⟨by omega, h⟩ hno
      have HS := Lib.hid hs
      obtain ⟨m, hm⟩ := Int.eq_ofNat_of_zero_le (show 0 ≤ inl zs.length by omega)
      have HI := Lib.hid (show inl n = m by rw [← HL.out]; exact hm)
      have hm2 := (inl_nat hm).2
      clear hno h0 hs hm
      go_enter Tryz.func42, Tryz.ntmps42
      go_wp2_with fail
      (with_reducible refine (specInl _ HW.out _).mono ?_)
      rw [HI.out]
      rintro e w1 ⟨rfl, rfl⟩
      go_wp2_with fail
      (with_reducible refine (bits.specIss zs _ _ A n cap _ HR.out).mono ?_)
      rw [HS.out]
      rintro e w1 ⟨rfl, rfl⟩
      go_wp2_with fail
      go_ret2
      rw [HV.out]
      exact ⟨_, _, _, rfl, (Ow.empty _ _ _).up, (Below.refl _ _).alloc (Nat.le_refl _) _⟩
end Go.Proofs.YtdelpepepbkjmaaGreatDoor.vts
end

section
namespace Go.Proofs.YtdelpepepbkjmaaGreatDoor.phs
open Go.RowKit sl harn rng phm
set_option linter.unusedVariables false

theorem vit_parts {t : List Int × Int} {l : List Int} {d : Int} (ht : t = (l, d)) {w w' : World} {e : Ending} (h : vts.VitPost t w e w') :
    ∃ A m c, e = .returned (.tuple #[.slice A m c, .int .i64 d]) ∧ Ow 3 .i64 w' w.heap.size w'.heap.size A m c l ∧ Below w.heap.size w w' := by
  subst ht; exact h
theorem vits_parts {t : List Int × Int} {l : List Int} {d : Int} (ht : t = (l, d)) {w w' : World} {e : Ending} (h : vts.VitPostS t w e w') :
    ∃ A m c, e = .returned (.tuple #[.slice A m c, .int .i64 d]) ∧ Ow 3 .i64 w' w.heap.size w'.heap.size A m c l ∧ Below w.heap.size w w' := by
  subst ht; exact h
/-- What a decoding of a payload hands back. -/
def UnPost (t : List Int × Bool) (w : World) (e : Ending) (w' : World) : Prop :=
  ∃ A m c, e = .returned (.tuple #[.slice A m c, .bool t.2]) ∧ Ow 5 .u8 w' w.heap.size w'.heap.size A m c t.1 ∧ Below w.heap.size w w'
theorem UnPost.parts {t : List Int × Bool} {ps : List Int} {z : Bool} (ht : t = (ps, z)) {w w' : World} {e : Ending} (h : UnPost t w e w') :
    ∃ A m c, e = .returned (.tuple #[.slice A m c, .bool z]) ∧ Ow 5 .u8 w' w.heap.size w'.heap.size A m c ps ∧ Below w.heap.size w w' := by
  subst ht; exact h
/-- The parts of a payload's decoding. -/
structure Un (r l s : Int) (zs U xs ys ps : List Int) (d : Int) (t z : Bool) : Prop where
  u : undo r l zs = U
  v : vit.vit U = (xs, d)
  b : bm.bb (scrm.scr s xs) = (ys, t)
  c : crcs.chk ys = (ps, z)
theorem Un.all {r l s : Int} {zs U xs ys ps : List Int} {d : Int} {t z : Bool} (h : Un r l s zs U xs ys ps d t z) : unpay r l s zs = (ps, z) := by
  unfold unpay; rw [h.u, h.v]; simp only; rw [h.b]; exact h.c
theorem Un.lenx {r l s : Int} {zs U xs ys ps : List Int} {d : Int} {t z : Bool} (h : Un r l s zs U xs ys ps d t z) : xs.length ≤ 4000 + zs.length := by
  have h1 := vit_len U
  have h2 := undo_len r l zs
  rw [h.u] at h2; rw [h.v] at h1; simp only at h1; omega
theorem Un.leny {r l s : Int} {zs U xs ys ps : List Int} {d : Int} {t z : Bool} (h : Un r l s zs U xs ys ps d t z) : ys.length ≤ 4000 + zs.length := by
  have h1 := bm.bb_len (scrm.scr s xs)
  rw [scrm.scr_len, h.b] at h1
  have := h.lenx; simp only at h1; omega
theorem un_ex (r l s : Int) (zs : List Int) : ∃ U xs ys ps d t z, Un r l s zs U xs ys ps d t z := ⟨_, _, _, _, _, _, _, rfl, rfl, rfl, rfl⟩
theorem Un.fast {l s : Int} {zs U xs ys ps : List Int} {d : Int} {t z : Bool} (h : Un 2 l s zs U xs ys ps d t z) : cvm.dep (itm.dei zs 8) (cl l) = U := by rw [← h.u, undo_fast rfl]
theorem Un.slow {r l s : Int} {zs U xs ys ps : List Int} {d : Int} {t z : Bool} (h : Un r l s zs U xs ys ps d t z) (hr : ¬ r = 2) : itm.dei zs 8 = U := by rw [← h.u, undo_slow hr]
/-- A decoding that fails ahead of the check fails. -/
theorem Un.neg {r l s : Int} {zs U xs ys ps : List Int} {d : Int} {t z : Bool} (h : Un r l s zs U xs ys ps d t z) (hd : d < 0) : z = false := by
  have hv := h.v
  rcases vit.vit_cases U with ⟨m, hm, hs⟩ | hno
  · rw [vit.vit_yes hm hs] at hv
    injection hv with _ h2
    have := vit.dec_nn (zs := U) (n := m) (vit.inl_nat hm).1
    have h3 : (vit.inl_nat hm).1 = (vit.inl_nat hm).1 := rfl
    omega
  · rw [vit.vit_no hno] at hv
    injection hv with h1 _
    have hb := h.b
    have hc := h.c
    have e0 : scrm.scr s xs = [] := by
      have := scrm.scr_len s xs
      rw [← h1] at this ⊢
      exact List.eq_nil_of_length_eq_zero (by simpa using this)
    rw [e0, bm.bb_yes (by rfl) (by rfl)] at hb
    injection hb with h2 _
    have e1 : ys = [] := by rw [← h2]; rfl
    rw [e1, crcs.chk_no (by simp)] at hc
    injection hc with _ h3
    exact h3.symm
theorem Un.bad {r l s : Int} {zs U xs ys ps : List Int} {d : Int} {z : Bool} (h : Un r l s zs U xs ys ps d false z) : z = false := by
  have hb := h.b
  have hc := h.c
  by_cases g : bm.isb (scrm.scr s xs) = true ∧ (scrm.scr s xs).length % 8 = 0
  · rw [bm.bb_yes g.1 g.2] at hb
    injection hb with _ h2
    cases h2
  · rw [bm.bb_no g] at hb
    injection hb with h2 _
    rw [← h2, crcs.chk_no (by simp)] at hc
    injection hc with _ h3
    exact h3.symm
set_option maxRecDepth 100000 in
set_option maxHeartbeats 4000000 in
theorem decPay (r l s : Int) (hl : 0 ≤ l ∧ l ≤ 120) (zs : List Int) (lo hi : Nat) (A : Option Addr) (n cap : Nat) (w : World) (h : Rd .i64 w lo hi A n cap zs) (hn : n ≤ 60000000) :
    Calls Tryz.prog 65 #[.agg #[.int .i64 r, .int .i64 l, .int .i64 s], .slice A n cap] w (UnPost (unpay r l s zs) w) := by
  obtain ⟨U, xs, ys, ps, d, t, z, hu⟩ := un_ex r l s zs
  have HU := Lib.hid hu
  have HL := Lib.hid hl
  have HZ := Lib.hid h.len
  have HR := Lib.hid h
  have HW := Lib.hid (show (Lit.int .i64 (cl l)).wf = true from wf_num (by have := cl_eq hl; omega))
  have LX := Lib.hid (show xs.length ≤ 4000 + n by rw [← h.len]; exact hu.lenx)
  have LY := Lib.hid (show ys.length ≤ 4000 + n by rw [← h.len]; exact hu.leny)
  clear h hu hl
  rw [HU.out.all]
  go_enter Tryz.func65, Tryz.ntmps65
  go_wp2_with fail
  generalize hW0 : w.alloc (.cells #[.int .i64 r, .int .i64 l, .int .i64 s] 25) = w0
  have X0 := Lib.hid (show Box w0 w.heap.size r l s by rw [← hW0]; exact Box.made _ _ _ _)
  have B0 := Lib.hid (show Below w.heap.size w w0 by rw [← hW0]; exact below_box _ _)
  have R0 := Lib.hid (Rd.upto HR.out B0.out HR.out.hi_)
  clear hW0
  (with_reducible refine (itl.implDei zs 8 _ _ A n cap _ R0.out (by omega)).mono ?_)
  rintro e w1 ⟨A1, n1, c1, rfl, ho, hb⟩
  have N1 := Lib.hid (show n1 = n by rw [← ho.len, itm.dei_len]; exact HZ.out)
  have O1 := Lib.hid ho
  have B1 := Lib.hid (B0.out.trans (hb.mono B0.out.size))
  have X1 := Lib.hid (X0.out.below hb)
  clear ho hb
  have x0 := X1.out.c0
  have x1 := X1.out.c1
  have x2 := X1.out.c2
  by_cases h2 : r = 2
  · subst h2
    go_wp2_with fail
    (with_reducible refine (codedLen _ _ _ HL.out _).mono ?_)
    rintro e w2 ⟨rfl, hb⟩
    have B2 := Lib.hid (B1.out.trans (hb.mono B1.out.size))
    have X2 := Lib.hid (X1.out.below hb)
    have O2 := Lib.hid (O1.out.below hb)
    clear hb x0 x1 x2
    go_wp2_with fail
    (with_reducible refine (cvs.implDp (itm.dei zs 8) (cl l) HW.out _ _ A1 n1 c1 _ O2.out.rd).mono ?_)
    rw [HU.out.fast]
    rintro e w3 ⟨A3, n3, c3, rfl, ho, hb⟩
    have O3 := Lib.hid ho
    have B3 := Lib.hid (B2.out.trans (hb.mono B2.out.size))
    have X3 := Lib.hid (X2.out.below hb)
    clear ho hb
    go_wp2_with fail
    (with_reducible refine (vts.implVit U _ _ A3 n3 c3 _ O3.out.rd).mono ?_)
    rintro e w4 hpost
    obtain ⟨A4, n4, c4, rfl, ho, hb⟩ := vit_parts HU.out.v hpost
    have O4 := Lib.hid ho
    have N4 := Lib.hid (show n4 ≤ 4000 + n by rw [← ho.len]; exact LX.out)
    have B4 := Lib.hid (B3.out.trans (hb.mono B3.out.size))
    have X4 := Lib.hid (X3.out.below hb)
    clear ho hb hpost
    have x2 := X4.out.c2
    go_wp2_with fail
    (with_reducible refine (scrs.implScr s xs _ _ A4 n4 c4 _ O4.out.rd (by have := N4.out; omega)).mono ?_)
    rintro e w5 ⟨A5, n5, c5, rfl, ho, hb⟩
    have O5 := Lib.hid ho
    have N5 := Lib.hid (show n5 ≤ 4000 + n by rw [← ho.len, scrm.scr_len]; exact LX.out)
    have B5 := Lib.hid (B4.out.trans (hb.mono B4.out.size))
    clear ho hb x2
    go_wp2_with fail
    (with_reducible refine (bits.implBb (scrm.scr s xs) _ _ A5 n5 c5 _ O5.out.rd (by have := N5.out; omega)).mono ?_)
    rintro e w6 hpost
    obtain ⟨A6, n6, c6, rfl, ho, hb⟩ := hpost.parts HU.out.b
    have O6 := Lib.hid ho
    have N6 := Lib.hid (show n6 ≤ 4000 + n by rw [← ho.len]; exact LY.out)
    have B6 := Lib.hid (B5.out.trans (hb.mono B5.out.size))
    clear ho hb hpost
    go_wp2_with fail
    (with_reducible refine (crcs.implCheck ys _ _ A6 n6 c6 _ O6.out.rd (by have := N6.out; omega)).mono ?_)
    rintro e w7 hpost
    obtain ⟨A7, n7, c7, rfl, ho, hb⟩ := hpost.parts HU.out.c
    go_wp2_with fail
    go_ret2
    exact ⟨_, _, _, rfl, ho.down (lo2 := w.heap.size) B6.out.size, B6.out.trans (hb.mono B6.out.size)⟩
  · have h3 : (r == 2) = false := by simpa using h2
    have O3 := O1
    rw [HU.out.slow h2] at O3
    go_wp2_with fail
    (with_reducible refine (vts.implVit U _ _ A1 n1 c1 _ O3.out.rd).mono ?_)
    rintro e w4 hpost
    obtain ⟨A4, n4, c4, rfl, ho, hb⟩ := vit_parts HU.out.v hpost
    have O4 := Lib.hid ho
    have N4 := Lib.hid (show n4 ≤ 4000 + n by rw [← ho.len]; exact LX.out)
    have B4 := Lib.hid (B1.out.trans (hb.mono B1.out.size))
    have X4 := Lib.hid (X1.out.below hb)
    clear ho hb hpost x0 x1 x2
    have x2 := X4.out.c2
    go_wp2_with fail
    (with_reducible refine (scrs.implScr s xs _ _ A4 n4 c4 _ O4.out.rd (by have := N4.out; omega)).mono ?_)
    rintro e w5 ⟨A5, n5, c5, rfl, ho, hb⟩
    have O5 := Lib.hid ho
    have N5 := Lib.hid (show n5 ≤ 4000 + n by rw [← ho.len, scrm.scr_len]; exact LX.out)
    have B5 := Lib.hid (B4.out.trans (hb.mono B4.out.size))
    clear ho hb x2
    go_wp2_with fail
    (with_reducible refine (bits.implBb (scrm.scr s xs) _ _ A5 n5 c5 _ O5.out.rd (by have := N5.out; omega)).mono ?_)
    rintro e w6 hpost
    obtain ⟨A6, n6, c6, rfl, ho, hb⟩ := hpost.parts HU.out.b
    have O6 := Lib.hid ho
    have N6 := Lib.hid (show n6 ≤ 4000 + n by rw [← ho.len]; exact LY.out)
    have B6 := Lib.hid (B5.out.trans (hb.mono B5.out.size))
    clear ho hb hpost
    go_wp2_with fail
    (with_reducible refine (crcs.implCheck ys _ _ A6 n6 c6 _ O6.out.rd (by have := N6.out; omega)).mono ?_)
    rintro e w7 hpost
    obtain ⟨A7, n7, c7, rfl, ho, hb⟩ := hpost.parts HU.out.c
    go_wp2_with fail
    go_ret2
    exact ⟨_, _, _, rfl, ho.down (lo2 := w.heap.size) B6.out.size, B6.out.trans (hb.mono B6.out.size)⟩
end Go.Proofs.YtdelpepepbkjmaaGreatDoor.phs
end
