/- Regions that draw their order, with what holds of the world as long as one operation is not done. Condition: the region's form. -/
import Derived.Test.YtbkdbdhbmabgcaaRgf
namespace Go.Proofs.Ytbkdbdhbmabgcaa.reg
open Go Go.RowKit
set_option linter.unusedVariables false

section
variable {P : Program} {ops : Array Oper} {Q : Exit → Act → World → Prop} {C : World → Prop} {R : Nat → Value → World → Prop} {a0 : Act} {E : Nat → World → World → Prop} {rf : List (Nat × Tmp)}
theorem step_opU {l : List Oper} {s N : Nat} {nd : List (Option (List (Nat × Tmp)))} (H : Ok l.toArray s N rf nd) (hN : a0.tmps.size = N) (hC : ∀ i w w', C w → E i w w' → C w') (hR : ∀ i j v w w', i ≠ j → R j v w → E i w w' → R j v w')
    {L : Array Bool} {a : Act} {w : World} (I : Inv rf C R l.toArray a0 s L a w) {i : Nat} (his : i < s) (hr : i ∈ Region.ready .any l.toArray L)
    (hob : ∀ o d, l.toArray[i]? = some o → nd[i]? = some (some d) → Obs l.toArray R w (fun c => ∀ K : Act → World → Prop, (∀ v w', R i (told rf c i v o.dst) w' → E i w w' → K (c.put o.dst v) w') → if Region.wanted o (yielded l.toArray c.tmps) = true then Oper.wp P o c w K QF else K (c.put o.dst undef) w) d a0) {K : Act → World → Prop}
    (hK : ∀ a' w', Inv rf C R l.toArray a0 s (L.setIfInBounds i true) a' w' → E i w w' → K a' w') : wpOp P l.toArray Q i K a w := by
  obtain ⟨hun, o, ho, hall⟩ := mem_ready.1 hr
  have hd : dst l.toArray i = o.dst := by unfold dst; rw [ho]; rfl
  obtain ⟨d, hnd, hdep, hlook⟩ := H.need i o ho his
  have hlist : ∀ j ∈ d, L.getD j.1 false = true := fun j hj => by
    obtain ⟨e, he, hb, hon⟩ := edge_of (hdep j hj).1 ho
    rw [← hon]; exact hall e he hb
  have hc := obs_puts (a := a) _ _ (hob o d ho hnd) fun j hj => by
    have := I.right j.1 (hlist j hj) (by rw [(hdep j hj).2.1]; rfl)
    rwa [(hdep j hj).2.1] at this
  have hcs : (puts l.toArray a d a0).tmps.size = a.tmps.size := by rw [puts_size]; exact I.size.symm
  have hag : ∀ k ∈ o.looksAt l.toArray, a.tmps.getD k undef = (puts l.toArray a d a0).tmps.getD k undef := fun k hk => by
    rcases hlook k hk with h | h
    · exact (puts_in a d a0 I.size h).symm
    · refine (puts_kept a d a0 I.size (I.base k fun j hl => h j ?_).symm).symm
      rcases Nat.lt_or_ge j s with h' | h'
      · exact h'
      · rw [I.tail j h'] at hl; cases hl
  have hsel := Region.noSelect_spec H.sel i o
  have h1 := hc (fun a' w' => ∃ v, a' = (puts l.toArray a d a0).put o.dst v ∧ R i (told rf (puts l.toArray a d a0) i v o.dst) w' ∧ E i w w') fun v w' h2 h3 => ⟨v, rfl, h2, h3⟩
  have fin : ∀ v w', (∃ v', (puts l.toArray a d a0).put o.dst v = (puts l.toArray a d a0).put o.dst v' ∧ R i (told rf (puts l.toArray a d a0) i v' o.dst) w' ∧ E i w w') → K (a.put o.dst v) w' := fun v w' ⟨v', e, h2, h3⟩ =>
    hK _ _ (inv_step H hN hC hR I ho his hr (fun hsm => by
      rw [hd] at hsm ⊢
      cases hx' : o.dst with
      | some x =>
        rw [hx'] at e h2
        have hx : dst l.toArray i = some x := by rw [hd]; exact hx'
        have hlt : x < (puts l.toArray a d a0).tmps.size := by rw [puts_size, hN]; exact H.room i x hx
        have h4 : ((puts l.toArray a d a0).put (some x) v).tmps.getD x undef = ((puts l.toArray a d a0).put (some x) v').tmps.getD x undef := by rw [e]
        rw [put_at hlt, put_at hlt] at h4
        show R i v w'
        rw [h4]; exact h2
      | none =>
        rw [hx'] at h2 hsm
        show R i (look a (rf.lookup i)) w'
        have h2' : R i (look (puts l.toArray a d a0) (rf.lookup i)) w' := h2
        obtain ⟨x, hx⟩ := Option.isSome_iff_exists.1 hsm
        have hx2 : rf.lookup i = some x := hx
        rw [hx2] at h2' ⊢
        obtain ⟨_, _, l', k, hl1, hkl⟩ := H.refs i x hx2
        obtain rfl : l' = d := by simpa using hl1.symm.trans hnd
        have e2 : (puts l.toArray a l' a0).tmps.getD x undef = a.tmps.getD x undef := puts_in a l' a0 I.size ⟨(k, x), hkl, rfl⟩
        have e3 : look (puts l.toArray a l' a0) (some x) = look a (some x) := e2
        rw [← e3]; exact h2') h3) h3
  unfold wpOp
  rw [ho]
  simp only
  rw [wanted_same hcs.symm hag]
  split
  · rename_i hw
    rw [if_pos hw] at h1
    refine .inl ?_
    unfold Oper.wp at h1 ⊢
    rw [exec_same (fun cs b => hsel cs b ho) hag]
    refine upon_move fin (fun dd w' hh => ?_) h1
    obtain ⟨v', e, _⟩ := hh
    have := congrArg Act.defers e
    rw [put_defers, put_defers] at this
    exact absurd (congrArg List.length this) (by simp)
  · rename_i hw
    rw [if_neg hw] at h1
    exact fin _ _ h1


/-- One operation's duty, told what holds as long as it is not done. -/
def ObU (U : Nat → World → Prop) (E : Nat → World → World → Prop) (rf : List (Nat × Tmp)) (P : Program) (ops : Array Oper) (R : Nat → Value → World → Prop) (C : World → Prop) (a0 : Act) (i : Nat) (o : Oper) (d : List (Nat × Tmp)) : Prop :=
  ∀ w, C w → U i w → Obs ops R w (fun c => ∀ K : Act → World → Prop, (∀ v w', R i (told rf c i v o.dst) w' → E i w w' → K (c.put o.dst v) w') →
    if Region.wanted o (yielded ops c.tmps) = true then Oper.wp P o c w K QF else K (c.put o.dst undef) w) d a0
def AllU (U : Nat → World → Prop) (E : Nat → World → World → Prop) (rf : List (Nat × Tmp)) (P : Program) (ops : Array Oper) (R : Nat → Value → World → Prop) (C : World → Prop) (a0 : Act) : Nat → List Oper → List (Option (List (Nat × Tmp))) → Prop
  | i, o :: l, some d :: nd => ObU U E rf P ops R C a0 i o d ∧ AllU U E rf P ops R C a0 (i + 1) l nd
  | i, _ :: l, none :: nd => AllU U E rf P ops R C a0 (i + 1) l nd
  | _, _, _ => True
theorem all_getU {U : Nat → World → Prop} : ∀ (l : List Oper) (nd : List (Option (List (Nat × Tmp)))) (k : Nat), AllU U E rf P ops R C a0 k l nd → ∀ (i : Nat) (o : Oper) (d : List (Nat × Tmp)), l[i]? = some o → nd[i]? = some (some d) → ObU U E rf P ops R C a0 (k + i) o d
  | [], _, _, _, i, o, d, ho, _ => by simp at ho
  | o :: l, [], _, _, i, _, d, _, hd => by simp at hd
  | o :: l, none :: nd, k, h, 0, _, d, _, hd => by simp at hd
  | o :: l, none :: nd, k, h, i + 1, o', d, ho, hd => by
    have := all_getU l nd (k + 1) h i o' d (by simpa using ho) (by simpa using hd)
    rwa [show k + 1 + i = k + (i + 1) by omega] at this
  | o :: l, some e :: nd, k, h, 0, o', d, ho, hd => by
    simp at ho hd
    subst ho hd
    exact h.1
  | o :: l, some e :: nd, k, h, i + 1, o', d, ho, hd => by
    have := all_getU l nd (k + 1) h.2 i o' d (by simpa using ho) (by simpa using hd)
    rwa [show k + 1 + i = k + (i + 1) by omega] at this
theorem u_step {U : Nat → World → Prop} (hU : ∀ i j w w', i ≠ j → U j w → E i w w' → U j w') {L : Array Bool} {i : Nat} {w w' : World} (hi : i < L.size) (h : ∀ j, L.getD j false = false → U j w) (he : E i w w') : ∀ j, (L.setIfInBounds i true).getD j false = false → U j w' := by
  intro j hj
  by_cases hij : i = j
  · subst hij
    rw [set_at hi] at hj; cases hj
  · rw [getD_set_ne false hij] at hj
    exact hU i j w w' hij (h j hj) he
theorem any_plainU {U : Nat → World → Prop} {l : List Oper} {N : Nat} {nd : List (Option (List (Nat × Tmp)))} (H : Ok l.toArray l.length N rf nd) (hN : a0.tmps.size = N) (hC : ∀ i w w', C w → E i w w' → C w') (hR : ∀ i j v w w', i ≠ j → R j v w → E i w w' → R j v w') (hU : ∀ i j w w', i ≠ j → U j w → E i w w' → U j w')
    (hA : AllU U E rf P l.toArray R C a0 0 l nd) (hF : ∀ w, C w → Obs l.toArray R w (fun c => (∀ x ∈ rf, rf.lookup x.1 = some x.2 → R x.1 (look c (some x.2)) w) → Q .normal c w) (heads l.toArray l.length) a0) : ∀ (fuel : Nat) (L : Array Bool) (a : Act) (w : World), L.toList.count false ≤ fuel → Inv rf C R l.toArray a0 l.length L a w → (∀ j, L.getD j false = false → U j w) →
    wpAny P .any l.toArray Q fuel L a w := by
  intro fuel
  have fin : ∀ (L : Array Bool) (a : Act) (w : World), Region.ready .any l.toArray L = [] → Inv rf C R l.toArray a0 l.length L a w → Q .normal a w := fun L a w h0 I => by
    have hall : ∀ i, i < l.toArray.size → L.getD i false = true := fun i hi => by
      cases hx : L.getD i false with
      | true => rfl
      | false => exact absurd h0 (some_ready H I.len (i + 1) i (by omega) hi (getD_in (by rw [I.len]; exact hi) hx))
    refine all_done H I (fun i _ hi => hall i hi) (hF w I.c) fun x hx hlk => ?_
    obtain ⟨h1, h2, _⟩ := H.refs x.1 x.2 hlk
    have := I.right x.1 (hall x.1 (by simpa using h2)) (by rw [h1]; simp only [slot, hlk]; rfl)
    rw [h1] at this
    simp only [slot, hlk] at this
    exact this
  induction fuel with
  | zero =>
    intro L a w hc I hu
    have h0 : Region.ready .any l.toArray L = [] := List.eq_nil_iff_forall_not_mem.2 fun i hi => by
      have := (mem_ready.1 hi).1
      rw [none_left (by omega) i] at this; cases this
    exact ⟨h0, fin L a w h0 I⟩
  | succ fuel ih =>
    intro L a w hc I hu
    refine ⟨fun h0 => fin L a w h0 I, fun i hi => ?_⟩
    obtain ⟨hun, o, ho, _⟩ := mem_ready.1 hi
    have hin : i < l.toArray.size := (Array.getElem?_eq_some_iff.1 ho).1
    have hiL : i < L.size := by rw [I.len]; exact hin
    have hf : L.getD i false = false := getD_both hun
    refine step_opU H hN hC hR I (by simpa using hin) hi (fun o' d ho' hnd => ?_) fun a' w' I' he => ih _ _ _ (by have := count_set hun; omega) I' (u_step hU hiL hu he)
    have := all_getU l nd 0 hA i o' d (by simpa using ho') hnd
    rw [Nat.zero_add] at this
    exact this w I.c (hu i hf)
theorem inv_startU {U : Nat → World → Prop} {n : Nat} {w : World} (h : ∀ j, U j w) : ∀ j, (Array.replicate n false).getD j false = false → U j w := fun j _ => h j
end
end Go.Proofs.Ytbkdbdhbmabgcaa.reg
namespace Go.Proofs.Ytbkdbdhbmabgcaa.rgf
open Go Go.RowKit sl harn bx mrw
set_option linter.unusedVariables false
variable {P : Program} {Q : Exit → Act → World → Prop} {a0 : Act}
/-- The rule: u: an operation of which Uo says what holds as long as it is not done. -/
theorem region_freeU {id : Nat} {l : List Oper} {w : World} (d : Rel) (Es : List Rel) (f : (j : Nat) → Sx d Es j) (u : Nat) (Uo : Sx d Es u) (N : Nat) (rf : List (Nat × Tmp)) (nd : List (Option (List (Nat × Tmp)))) (hd : List (Nat × Tmp)) (C : World → Prop) (hm : P.follows .mixedOrders = true) (hB : reg.okB l.toArray l.length N rf nd = true) (hN : a0.tmps.size = N)
    (h0C : ∀ w w', C w → d w w' → C w') (hC : AllC C Es) (h0 : C w.drew) (hU0 : Uo.p undef w.drew) (hH : reg.heads l.toArray l.length = hd) (hA : reg.AllU (fun i w => i = u → Uo.p undef w) (fun i => Es.getD i d) rf P l.toArray (fun j v w => (f j).p v w) C a0 0 l nd)
    (hF : ∀ w, C w → reg.Obs l.toArray (fun j v w => (f j).p v w) w (fun c => (∀ x ∈ rf, rf.lookup x.1 = some x.2 → (f x.1).p (reg.look c (some x.2)) w) → Q .normal c w) hd a0) : (Code.region id l.toArray true).wp P Q a0 w :=
  wp_region_any hm (by
    subst hH
    refine reg.any_plainU (U := fun i w => i = u → Uo.p undef w) (Q := Q) (reg.ok_of hB) hN (stabC h0C hC) (stab (f := f)) (fun i j w w' hij hu he hj => ?_) hA hF _ _ a0 w.drew (by simp) (reg.inv_start h0) (reg.inv_startU (U := fun i w => i = u → Uo.p undef w) fun j _ => hU0)
    subst hj
    exact stab (f := fun k => if h : k = j then h ▸ Uo else freeS) i j undef w w' hij (by simpa using hu rfl) he |> fun q => by simpa using q)
end Go.Proofs.Ytbkdbdhbmabgcaa.rgf
