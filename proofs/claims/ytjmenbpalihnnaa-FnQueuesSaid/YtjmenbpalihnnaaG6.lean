/- Merged texts of this seat. Rgv: Regions that draw their order, with a pure relation between the values of two operations: paid by whichever comes later; and a change of the world that knows the value of the slot it refers to. Condition: the region's form. | Qcg: A region that hands back a queue, a message and a bool into two new variables: what is right of its values, how it changes the world, and what relates its values (for XRgv's rule). Condition: none. | Qch: What the duties of such a region owe. Condition: none. | Drx: Draws of stage 17: a message. Condition: the bytes that are drawn from are a slice that came in. | Dry: Draws of stage 17: a queue. Condition: the bytes that are drawn from are a slice that came in. -/
import Derived.Deep.Cut
import Derived.Test.YtjmenbpalihnnaaG1
import Derived.Test.YtjmenbpalihnnaaG2
import Derived.Test.YtjmenbpalihnnaaG3
import Derived.Test.YtjmenbpalihnnaaG5
section
namespace Go.Proofs.Ytjmenbpalihnnaa.reg
open Go Go.RowKit
set_option linter.unusedVariables false

section
variable {P : Program} {ops : Array Oper} {Q : Exit → Act → World → Prop} {C : World → Prop} {R : Nat → Value → World → Prop} {a0 : Act} {E : Nat → Value → World → World → Prop} {D : Nat → Nat → Value → Value → World → Prop} {rf : List (Nat × Tmp)} {sr : List (Nat × Nat)}
/-- The form alone. -/
abbrev Frm (rf : List (Nat × Tmp)) (ops : Array Oper) (a0 : Act) (s : Nat) (L : Array Bool) (a : Act) (w : World) : Prop := Inv rf (fun _ => True) (fun _ _ _ => True) ops a0 s L a w
/-- The value of an operation that is done. -/
def val_ (rf : List (Nat × Tmp)) (ops : Array Oper) (a : Act) (j : Nat) : Value := look a (slot rf j (dst ops j))
structure Gen (C : World → Prop) (R : Nat → Value → World → Prop) (D : Nat → Nat → Value → Value → World → Prop) (rf : List (Nat × Tmp)) (ops : Array Oper) (L : Array Bool) (a : Act) (w : World) : Prop where
  c : C w
  right : ∀ j, L.getD j false = true → (slot rf j (dst ops j)).isSome = true → R j (val_ rf ops a j) w
  pair : ∀ j k, j ≠ k → L.getD j false = true → L.getD k false = true → (slot rf j (dst ops j)).isSome = true → (slot rf k (dst ops k)).isSome = true → D j k (val_ rf ops a j) (val_ rf ops a k) w
theorem keep_val {s N : Nat} {nd : List (Option (List (Nat × Tmp)))} (H : Ok ops s N rf nd) {L : Array Bool} {a : Act} {w : World} {C0 : World → Prop} {R0 : Nat → Value → World → Prop} (I : Inv rf C0 R0 ops a0 s L a w) {i : Nat} {o : Oper} (ho : ops[i]? = some o) (hun : L.getD i true = false) {v : Value} {j : Nat} (hij : i ≠ j) (hl : L.getD j false = true) :
    val_ rf ops (a.put o.dst v) j = val_ rf ops a j := by
  have hd : dst ops i = o.dst := by unfold dst; rw [ho]; rfl
  have hi : i < ops.size := (Array.getElem?_eq_some_iff.1 ho).1
  unfold val_
  cases hdd : dst ops j with
  | some d => exact put_ne fun e => H.apart j i d (dst_lt hdd) hi (Ne.symm hij) hdd (by rw [hd]; exact e)
  | none =>
    cases hrf : rf.lookup j with
    | none => simp only [slot, hrf, look]
    | some d =>
      simp only [slot, hrf]
      obtain ⟨_, hjs, l, k, hl1, hkl⟩ := H.refs j d hrf
      have hjn : j < ops.size := by
        rcases Nat.lt_or_ge j ops.size with h' | h'
        · exact h'
        · simp [Array.getElem?_eq_none (show L.size ≤ j by rw [I.len]; exact h')] at hl
      have hoj : ops[j]? = some ops[j] := Array.getElem?_eq_getElem hjn
      obtain ⟨l', hl2, hdep, _⟩ := H.need j _ hoj hjs
      obtain rfl : l' = l := by simpa using hl2.symm.trans hl1
      obtain ⟨h1, h2, _⟩ := hdep (k, d) hkl
      obtain ⟨e, he, hbi, hon⟩ := edge_of h1 hoj
      have hkL := I.closed j _ hoj hl e he hbi
      rw [hon] at hkL
      refine put_ne fun e => ?_
      have hki : k ≠ i := fun e => by subst e; rw [getD_both hun] at hkL; cases hkL
      exact H.apart k i d (dst_lt h2) hi hki h2 (by rw [hd]; exact e)
/-- The check on what stores refer to. -/
def srB (rf : List (Nat × Tmp)) (nd : List (Option (List (Nat × Tmp)))) (sr : List (Nat × Nat)) : Bool :=
  sr.all fun x => match rf.lookup x.1, nd.getD x.1 none with
    | some t, some d => d.any fun e => e.1 == x.2 && e.2 == t
    | _, _ => false
theorem sr_of {nd : List (Option (List (Nat × Tmp)))} (h : srB rf nd sr = true) {i k : Nat} (hk : sr.lookup i = some k) : ∃ t d, rf.lookup i = some t ∧ nd.getD i none = some d ∧ (k, t) ∈ d := by
  have hm : (i, k) ∈ sr := by
    clear h
    induction sr with
    | nil => cases hk
    | cons x l ih =>
      obtain ⟨x1, x2⟩ := x
      rw [List.lookup_cons] at hk
      split at hk
      · rename_i he
        have he' : i = x1 := by simpa using he
        rw [he', (Option.some.inj hk)]; exact List.mem_cons_self
      · exact List.mem_cons_of_mem _ (ih hk)
  have := List.all_eq_true.1 h _ hm
  simp only at this
  split at this
  · rename_i t d h1 h2
    obtain ⟨e, he, hb⟩ := List.any_eq_true.1 this
    simp only [Bool.and_eq_true, beq_iff_eq] at hb
    obtain ⟨e1, e2⟩ := e
    obtain ⟨rfl, rfl⟩ := hb
    exact ⟨_, d, h1, h2, he⟩
  · cases this
/-- What an operation owes besides its value: the relation to whatever else is there. -/
def Owed (ops : Array Oper) (R : Nat → Value → World → Prop) (D : Nat → Nat → Value → Value → World → Prop) (d : List (Nat × Tmp)) (c : Act) (i : Nat) (x : Value) (w w' : World) : Prop :=
  ∀ k y, k ≠ i → (Region.waitsFor .any ops k i = true → False) → R k y w → (∀ e ∈ d, e.1 = k → y = look c (some e.2)) → (∀ e ∈ d, e.1 ≠ k → D k e.1 y (look c (some e.2)) w ∧ D e.1 k (look c (some e.2)) y w) → D i k x y w' ∧ D k i y x w'
/-- One operation's duty. -/
def ObV (D : Nat → Nat → Value → Value → World → Prop) (E : Nat → Value → World → World → Prop) (rf : List (Nat × Tmp)) (P : Program) (ops : Array Oper) (R : Nat → Value → World → Prop) (C : World → Prop) (a0 : Act) (i : Nat) (o : Oper) (d : List (Nat × Tmp)) : Prop :=
  ∀ w, C w → Obs ops R w (fun c => ∀ K : Act → World → Prop, (∀ v w', R i (told rf c i v o.dst) w' → E i (told rf c i v o.dst) w w' → Owed ops R D d c i (told rf c i v o.dst) w w' → K (c.put o.dst v) w') →
    if Region.wanted o (yielded ops c.tmps) = true then Oper.wp P o c w K QF else K (c.put o.dst undef) w) d a0
def AllV (D : Nat → Nat → Value → Value → World → Prop) (E : Nat → Value → World → World → Prop) (rf : List (Nat × Tmp)) (P : Program) (ops : Array Oper) (R : Nat → Value → World → Prop) (C : World → Prop) (a0 : Act) : Nat → List Oper → List (Option (List (Nat × Tmp))) → Prop
  | i, o :: l, some d :: nd => ObV D E rf P ops R C a0 i o d ∧ AllV D E rf P ops R C a0 (i + 1) l nd
  | i, _ :: l, none :: nd => AllV D E rf P ops R C a0 (i + 1) l nd
  | _, _, _ => True
theorem all_getV : ∀ (l : List Oper) (nd : List (Option (List (Nat × Tmp)))) (k : Nat), AllV D E rf P ops R C a0 k l nd → ∀ (i : Nat) (o : Oper) (d : List (Nat × Tmp)), l[i]? = some o → nd[i]? = some (some d) → ObV D E rf P ops R C a0 (k + i) o d
  | [], _, _, _, i, o, d, ho, _ => by simp at ho
  | o :: l, [], _, _, i, _, d, _, hd => by simp at hd
  | o :: l, none :: nd, k, h, 0, _, d, _, hd => by simp at hd
  | o :: l, none :: nd, k, h, i + 1, o', d, ho, hd => by
    have := all_getV l nd (k + 1) h i o' d (by simpa using ho) (by simpa using hd)
    rwa [show k + 1 + i = k + (i + 1) by omega] at this
  | o :: l, some e :: nd, k, h, 0, o', d, ho, hd => by
    simp at ho hd
    subst ho hd
    exact h.1
  | o :: l, some e :: nd, k, h, i + 1, o', d, ho, hd => by
    have := all_getV l nd (k + 1) h.2 i o' d (by simpa using ho) (by simpa using hd)
    rwa [show k + 1 + i = k + (i + 1) by omega] at this
theorem step_opV {l : List Oper} {s N : Nat} {nd : List (Option (List (Nat × Tmp)))} (H : Ok l.toArray s N rf nd) (hN : a0.tmps.size = N) (hsr : srB rf nd sr = true) (hC : ∀ i x w w', C w → E i x w w' → C w')
    (hR : ∀ i j x y w w', i ≠ j → R j y w → E i x w w' → (∀ k, sr.lookup i = some k → k ≠ j → D k j x y w) → R j y w')
    (hD : ∀ i j k z x y w w', i ≠ j → i ≠ k → j ≠ k → R j x w → R k y w → E i z w w' → D j k x y w → (∀ m, sr.lookup i = some m → (m ≠ j → D m j z x w) ∧ (m ≠ k → D m k z y w)) → D j k x y w')
    {L : Array Bool} {a : Act} {w : World} (I : Frm rf l.toArray a0 s L a w) (G : Gen C R D rf l.toArray L a w) {i : Nat} (his : i < s) (hr : i ∈ Region.ready .any l.toArray L)
    (hob : ∀ o d, l.toArray[i]? = some o → nd[i]? = some (some d) → ObV D E rf P l.toArray R C a0 i o d) {K : Act → World → Prop}
    (hK : ∀ a' w', Frm rf l.toArray a0 s (L.setIfInBounds i true) a' w' → Gen C R D rf l.toArray (L.setIfInBounds i true) a' w' → K a' w') : wpOp P l.toArray Q i K a w := by
  obtain ⟨hun, o, ho, hall⟩ := mem_ready.1 hr
  have hun' := hun
  have hd : dst l.toArray i = o.dst := by unfold dst; rw [ho]; rfl
  have hi : i < l.toArray.size := (Array.getElem?_eq_some_iff.1 ho).1
  obtain ⟨d, hnd, hdep, hlook⟩ := H.need i o ho his
  have hlist : ∀ j ∈ d, L.getD j.1 false = true := fun j hj => by
    obtain ⟨e, he, hb, hon⟩ := edge_of (hdep j hj).1 ho
    rw [← hon]; exact hall e he hb
  have hc := obs_puts (a := a) _ _ (hob o d ho hnd w G.c) fun j hj => by
    have := G.right j.1 (hlist j hj) (by rw [(hdep j hj).2.1]; rfl)
    unfold val_ at this
    rwa [(hdep j hj).2.1] at this
  have hcs : (puts l.toArray a d a0).tmps.size = a.tmps.size := by rw [puts_size]; exact I.size.symm
  have hag : ∀ k ∈ o.looksAt l.toArray, a.tmps.getD k undef = (puts l.toArray a d a0).tmps.getD k undef := fun k hk => by
    rcases hlook k hk with h | h
    · exact (puts_in a d a0 I.size h).symm
    · refine (puts_kept a d a0 I.size (I.base k fun j hl => h j ?_).symm).symm
      rcases Nat.lt_or_ge j s with h' | h'
      · exact h'
      · rw [I.tail j h'] at hl; cases hl
  have hsel := Region.noSelect_spec H.sel i o
  have hneed : ∀ e ∈ d, look (puts l.toArray a d a0) (some e.2) = val_ rf l.toArray a e.1 := fun e he => by
    unfold val_
    rw [(hdep e he).2.1]
    exact puts_in a d a0 I.size ⟨e, he, rfl⟩
  have h1 := hc (fun a' w' => ∃ v, a' = (puts l.toArray a d a0).put o.dst v ∧ R i (told rf (puts l.toArray a d a0) i v o.dst) w' ∧ E i (told rf (puts l.toArray a d a0) i v o.dst) w w' ∧ Owed l.toArray R D d (puts l.toArray a d a0) i (told rf (puts l.toArray a d a0) i v o.dst) w w') fun v w' h2 h3 h4 => ⟨v, rfl, h2, h3, h4⟩
  have fin : ∀ v w', (∃ v', (puts l.toArray a d a0).put o.dst v = (puts l.toArray a d a0).put o.dst v' ∧ R i (told rf (puts l.toArray a d a0) i v' o.dst) w' ∧ E i (told rf (puts l.toArray a d a0) i v' o.dst) w w' ∧ Owed l.toArray R D d (puts l.toArray a d a0) i (told rf (puts l.toArray a d a0) i v' o.dst) w w') → K (a.put o.dst v) w' := by
    rintro v w' ⟨v', e, h2, h3, h4⟩
    -- the value told is the one that stands there
    have hx : (slot rf i (dst l.toArray i)).isSome = true → told rf (puts l.toArray a d a0) i v' o.dst = val_ rf l.toArray (a.put o.dst v) i := fun hsm => by
      unfold val_
      rw [hd] at hsm ⊢
      cases hx' : o.dst with
      | some x =>
        rw [hx'] at e
        have hx : dst l.toArray i = some x := by rw [hd]; exact hx'
        have hlt : x < (puts l.toArray a d a0).tmps.size := by rw [puts_size, hN]; exact H.room i x hx
        have h4 : ((puts l.toArray a d a0).put (some x) v).tmps.getD x undef = ((puts l.toArray a d a0).put (some x) v').tmps.getD x undef := by rw [e]
        rw [put_at hlt, put_at hlt] at h4
        show v' = _
        rw [← h4]
        exact (put_at (by rw [I.size, hN]; exact H.room i x hx)).symm
      | none =>
        rw [hx'] at hsm
        obtain ⟨x, hx⟩ := Option.isSome_iff_exists.1 hsm
        have hx2 : rf.lookup i = some x := hx
        obtain ⟨_, _, l', k, hl1, hkl⟩ := H.refs i x hx2
        obtain rfl : l' = d := by simpa using hl1.symm.trans hnd
        show look (puts l.toArray a l' a0) (rf.lookup i) = look (a.put none v) (rf.lookup i)
        rw [hx2]
        exact puts_in a l' a0 I.size ⟨(k, x), hkl, rfl⟩
    have hs1 : ∀ k, sr.lookup i = some k → L.getD k false = true ∧ (slot rf k (dst l.toArray k)).isSome = true ∧ told rf (puts l.toArray a d a0) i v' o.dst = val_ rf l.toArray a k := fun k hk => by
      obtain ⟨t, d', h5, h6, h7⟩ := sr_of hsr hk
      have hd2 : d' = d := by
        have e5 : nd.getD i none = some d := by rw [List.getD_eq_getElem?_getD, hnd]; rfl
        exact Option.some.inj (h6.symm.trans e5)
      subst hd2
      have h8 := hdep (k, t) h7
      have hn : o.dst = none := by rw [← hd]; exact (H.refs i t h5).1
      refine ⟨hlist _ h7, by rw [h8.2.1]; rfl, ?_⟩
      rw [hn]
      show look (puts l.toArray a d' a0) (rf.lookup i) = _
      rw [h5]
      exact hneed _ h7
    have F' : Frm rf l.toArray a0 s (L.setIfInBounds i true) (a.put o.dst v) w' := inv_step (E := fun _ _ _ => True) H hN (fun _ _ _ _ _ => trivial) (fun _ _ _ _ _ _ _ _ => trivial) I ho his hr (fun _ => trivial) trivial
    have back : ∀ j, i ≠ j → (L.setIfInBounds i true).getD j false = true → L.getD j false = true := fun j hij hl => by rwa [getD_set_ne false hij] at hl
    refine hK _ _ F' ⟨hC _ _ _ _ G.c h3, fun j hl hsm => ?_, fun j k hjk hl hm hsj hsk => ?_⟩
    · by_cases hij : i = j
      · subst hij
        rw [← hx hsm]; exact h2
      · rw [keep_val H I ho hun hij (back j hij hl)]
        refine hR i j _ _ _ _ hij (G.right j (back j hij hl) hsm) h3 fun k hk hkj => ?_
        obtain ⟨g1, g2, g3⟩ := hs1 k hk
        rw [g3]
        exact G.pair k j hkj g1 (back j hij hl) g2 hsm
    · have owe : ∀ k, i ≠ k → L.getD k false = true → (slot rf k (dst l.toArray k)).isSome = true → D i k (told rf (puts l.toArray a d a0) i v' o.dst) (val_ rf l.toArray a k) w' ∧ D k i (val_ rf l.toArray a k) (told rf (puts l.toArray a d a0) i v' o.dst) w' := fun k hik hk hsk =>
        h4 k _ (Ne.symm hik) (fun hw => by
          obtain ⟨ok, hok, _⟩ := Region.waitsFor_spec hw
          obtain ⟨e, he, hb, hon⟩ := edge_of hw hok
          have := I.closed k ok hok hk e he hb
          rw [hon, getD_both hun'] at this; cases this) (G.right k hk hsk) (fun e he hek => by rw [hneed e he, hek]) fun e he hek => by
          rw [hneed e he]
          have hse : (slot rf e.1 (dst l.toArray e.1)).isSome = true := by rw [(hdep e he).2.1]; rfl
          exact ⟨G.pair k e.1 (Ne.symm hek) hk (hlist e he) hsk hse, G.pair e.1 k hek (hlist e he) hk hse hsk⟩
      by_cases hij : i = j
      · subst hij
        rw [← hx hsj, keep_val H I ho hun hjk (back k hjk hm)]
        exact (owe k hjk (back k hjk hm) hsk).1
      · by_cases hik : i = k
        · subst hik
          rw [← hx hsk, keep_val H I ho hun hij (back j hij hl)]
          exact (owe j hij (back j hij hl) hsj).2
        · rw [keep_val H I ho hun hij (back j hij hl), keep_val H I ho hun hik (back k hik hm)]
          refine hD i j k (told rf (puts l.toArray a d a0) i v' o.dst) _ _ _ _ hij hik hjk (G.right j (back j hij hl) hsj) (G.right k (back k hik hm) hsk) h3 (G.pair j k hjk (back j hij hl) (back k hik hm) hsj hsk) fun m hm' => ?_
          obtain ⟨g1, g2, g3⟩ := hs1 m hm'
          rw [g3]
          exact ⟨fun h => G.pair m j h g1 (back j hij hl) g2 hsj, fun h => G.pair m k h g1 (back k hik hm) g2 hsk⟩
  unfold wpOp
  rw [ho]
  simp only
  rw [wanted_same hcs.symm hag]
  split
  · rename_i hw
    rw [if_pos hw] at h1
    refine .inl ?_
    unfold Oper.wp at h1 ⊢
    rw [exec_same (fun cs b => hsel cs b ho) hag]
    refine upon_move fin (fun dd w' hh => ?_) h1
    obtain ⟨v', e, _⟩ := hh
    have := congrArg Act.defers e
    rw [put_defers, put_defers] at this
    exact absurd (congrArg List.length this) (by simp)
  · rename_i hw
    rw [if_neg hw] at h1
    exact fin _ _ h1
theorem any_plainV {l : List Oper} {N : Nat} {nd : List (Option (List (Nat × Tmp)))} (H : Ok l.toArray l.length N rf nd) (hN : a0.tmps.size = N) (hsr : srB rf nd sr = true) (hC : ∀ i x w w', C w → E i x w w' → C w')
    (hR : ∀ i j x y w w', i ≠ j → R j y w → E i x w w' → (∀ k, sr.lookup i = some k → k ≠ j → D k j x y w) → R j y w')
    (hD : ∀ i j k z x y w w', i ≠ j → i ≠ k → j ≠ k → R j x w → R k y w → E i z w w' → D j k x y w → (∀ m, sr.lookup i = some m → (m ≠ j → D m j z x w) ∧ (m ≠ k → D m k z y w)) → D j k x y w')
    (hA : AllV D E rf P l.toArray R C a0 0 l nd)
    (hF : ∀ w, C w → Obs l.toArray R w (fun c => (∀ x ∈ rf, rf.lookup x.1 = some x.2 → R x.1 (look c (some x.2)) w) → (∀ x ∈ heads l.toArray l.length, ∀ y ∈ heads l.toArray l.length, x.1 ≠ y.1 → D x.1 y.1 (look c (some x.2)) (look c (some y.2)) w) → (∀ x ∈ rf, rf.lookup x.1 = some x.2 → ∀ y ∈ heads l.toArray l.length, D x.1 y.1 (look c (some x.2)) (look c (some y.2)) w) → Q .normal c w) (heads l.toArray l.length) a0) : ∀ (fuel : Nat) (L : Array Bool) (a : Act) (w : World), L.toList.count false ≤ fuel → Frm rf l.toArray a0 l.length L a w → Gen C R D rf l.toArray L a w →
    wpAny P .any l.toArray Q fuel L a w := by
  intro fuel
  have fin : ∀ (L : Array Bool) (a : Act) (w : World), Region.ready .any l.toArray L = [] → Frm rf l.toArray a0 l.length L a w → Gen C R D rf l.toArray L a w → Q .normal a w := fun L a w h0 I G => by
    have hall : ∀ i, i < l.toArray.size → L.getD i false = true := fun i hi => by
      cases hx : L.getD i false with
      | true => rfl
      | false => exact absurd h0 (some_ready H I.len (i + 1) i (by omega) hi (getD_in (by rw [I.len]; exact hi) hx))
    refine all_done (R := R) (C := C) H ⟨G.c, I.len, I.closed, I.tail, I.defers, I.size, I.base, G.right⟩ (fun i _ hi => hall i hi) (hF w G.c) (fun x hx hlk => ?_) (fun x hx y hy hxy => ?_) fun x hx hlk y hy => ?_
    · obtain ⟨h1, h2, _⟩ := H.refs x.1 x.2 hlk
      have := G.right x.1 (hall x.1 (by simpa using h2)) (by rw [h1]; simp only [slot, hlk]; rfl)
      unfold val_ at this
      rw [h1] at this
      simp only [slot, hlk] at this
      exact this
    · obtain ⟨h1, h2⟩ := mem_heads hx
      obtain ⟨h3, h4⟩ := mem_heads hy
      have := G.pair x.1 y.1 hxy (hall x.1 (dst_lt h2)) (hall y.1 (dst_lt h4)) (by rw [h2]; rfl) (by rw [h4]; rfl)
      unfold val_ at this
      rw [h2, h4] at this
      exact this
    · obtain ⟨h1, h2, _⟩ := H.refs x.1 x.2 hlk
      obtain ⟨h3, h4⟩ := mem_heads hy
      have hne : x.1 ≠ y.1 := fun e => by rw [e, h4] at h1; cases h1
      have := G.pair x.1 y.1 hne (hall x.1 (by simpa using h2)) (hall y.1 (dst_lt h4)) (by rw [h1]; simp only [slot, hlk]; rfl) (by rw [h4]; rfl)
      unfold val_ at this
      rw [h1, h4] at this
      simp only [slot, hlk] at this
      exact this
  induction fuel with
  | zero =>
    intro L a w hc I G
    have h0 : Region.ready .any l.toArray L = [] := List.eq_nil_iff_forall_not_mem.2 fun i hi => by
      have := (mem_ready.1 hi).1
      rw [none_left (by omega) i] at this; cases this
    exact ⟨h0, fin L a w h0 I G⟩
  | succ fuel ih =>
    intro L a w hc I G
    refine ⟨fun h0 => fin L a w h0 I G, fun i hi => ?_⟩
    obtain ⟨hun, o, ho, _⟩ := mem_ready.1 hi
    have hin : i < l.toArray.size := (Array.getElem?_eq_some_iff.1 ho).1
    refine step_opV (sr := sr) H hN hsr hC hR hD I G (by simpa using hin) hi (fun o' d ho' hnd => ?_) fun a' w' I' G' => ih _ _ _ (by have := count_set hun; omega) I' G'
    have := all_getV l nd 0 hA i o' d (by simpa using ho') hnd
    rwa [Nat.zero_add] at this
/-- The rule. -/
theorem region_pairs {id : Nat} {l : List Oper} {w : World} (E : Nat → Value → World → World → Prop) (D : Nat → Nat → Value → Value → World → Prop) (sr : List (Nat × Nat)) (N : Nat) (rf : List (Nat × Tmp)) (nd : List (Option (List (Nat × Tmp)))) (hd : List (Nat × Tmp)) (C : World → Prop) (R : Nat → Value → World → Prop) (hm : P.follows .mixedOrders = true) (hB : okB l.toArray l.length N rf nd = true) (hN : a0.tmps.size = N) (hsr : srB rf nd sr = true)
    (hC : ∀ i x w w', C w → E i x w w' → C w') (hR : ∀ i j x y w w', i ≠ j → R j y w → E i x w w' → (∀ k, sr.lookup i = some k → k ≠ j → D k j x y w) → R j y w')
    (hD : ∀ i j k z x y w w', i ≠ j → i ≠ k → j ≠ k → R j x w → R k y w → E i z w w' → D j k x y w → (∀ m, sr.lookup i = some m → (m ≠ j → D m j z x w) ∧ (m ≠ k → D m k z y w)) → D j k x y w') (h0 : C w.drew) (hH : heads l.toArray l.length = hd) (hA : AllV D E rf P l.toArray R C a0 0 l nd)
    (hF : ∀ w, C w → Obs l.toArray R w (fun c => (∀ x ∈ rf, rf.lookup x.1 = some x.2 → R x.1 (look c (some x.2)) w) → (∀ x ∈ hd, ∀ y ∈ hd, x.1 ≠ y.1 → D x.1 y.1 (look c (some x.2)) (look c (some y.2)) w) → (∀ x ∈ rf, rf.lookup x.1 = some x.2 → ∀ y ∈ hd, D x.1 y.1 (look c (some x.2)) (look c (some y.2)) w) → Q .normal c w) hd a0) : (Code.region id l.toArray true).wp P Q a0 w :=
  wp_region_any hm (by
    subst hH
    have I0 := inv_start (rf := rf) (C := fun _ => True) (R := fun _ _ _ => True) (ops := l.toArray) (a0 := a0) (s := l.length) (w := w.drew) trivial
    exact any_plainV (sr := sr) (Q := Q) (ok_of hB) hN hsr hC hR hD hA hF _ _ a0 w.drew (by simp) I0 ⟨h0, fun j hl => by simp [Array.getD] at hl, fun j k _ hl => by simp [Array.getD] at hl⟩)
end
end Go.Proofs.Ytjmenbpalihnnaa.reg
end

section
namespace Go.Proofs.Ytjmenbpalihnnaa.mq
open Go.RowKit sl harn bx mrw
set_option linter.unusedVariables false

abbrev MTy : TypeId := 28
abbrev QTy : TypeId := 26
/-- The result of the call: a queue and a message of the call's own, apart. -/
def Tup (N0 : Nat) (l1 : List Msg) (d : Int) (y1 : Msg) (b1 : Bool) (v : Value) (w : World) : Prop :=
  ∃ (A : Option Addr) (n c : Nat) (es : List (El Msg)) (f : El Msg) (lo hi : Nat), v = .tuple #[qV A n c d, mV y1 f.A f.n f.c, .bool b1] ∧ es.map (·.x) = l1 ∧ Oe msg w lo hi A n c es ∧ Ow 5 .u8 w lo hi f.A f.n f.c y1.2.2.2 ∧ Ds (es ++ [f]) ∧ N0 ≤ lo
/-- A new variable. -/
def BoxIs (T : TypeId) (s N0 : Nat) (v : Value) (w : World) : Prop := ∃ q cs, v = .pointer (some ⟨q, 0, none⟩) ∧ N0 ≤ q ∧ Bx T w q cs ∧ cs.size = s
/-- A store into a new variable. -/
def PutAt (T : TypeId) (s N0 : Nat) (x : Value) (w w' : World) : Prop := ∃ q cs0 cs, x = .pointer (some ⟨q, 0, none⟩) ∧ N0 ≤ q ∧ Bx T w q cs0 ∧ cs.size = s ∧ stw.Put T w q cs w'
/-- The variable is not the row of the queue. -/
def Sep (x y : Value) : Prop := ∀ q A n c d u v, x = .pointer (some ⟨q, 0, none⟩) → (y = qV A n c d ∨ y = .tuple #[qV A n c d, u, v]) → blkOf A ≠ some q
def LinkQ (x y : Value) (w : World) : Prop := ∀ q A n c d, x = .pointer (some ⟨q, 0, none⟩) → y = qV A n c d → Bx QTy w q #[.slice A n c, .int .i64 d]
def LinkM (x y : Value) (w : World) : Prop := ∀ q y1 A n c, x = .pointer (some ⟨q, 0, none⟩) → y = mV y1 A n c → Bx MTy w q #[.int .i64 y1.1, .int .i64 y1.2.1, .int .i64 y1.2.2.1, .slice A n c]
def Cmp0 (x y : Value) : Prop := ∀ a b c, x = .tuple #[a, b, c] → y = a
def Cmp1 (x y : Value) : Prop := ∀ a b c, x = .tuple #[a, b, c] → y = b
def Dp (to ca mv fq fm bm sq sm : Nat) (j k : Nat) (x y : Value) (w : World) : Prop :=
  (j = bm → (k = to ∨ k = ca ∨ k = mv) → Sep x y) ∧ (j = sq → k = fq → LinkQ x y w) ∧ (j = sm → k = fm → LinkM x y w) ∧ (j = mv → k = fq → Cmp0 x y) ∧ (j = mv → k = fm → Cmp1 x y)
def Ep (sq sm N0 : Nat) (i : Nat) (x : Value) (w w' : World) : Prop :=
  if i = sq then PutAt QTy 2 N0 x w w' else if i = sm then PutAt MTy 4 N0 x w w' else Below w.heap.size w w'
def Rp (to ca mv fq fm bq bm sq sm N0 : Nat) (ms : List Msg) (d : Int) (l1 : List Msg) (y1 : Msg) (b1 : Bool) (K : Nat → Value) (j : Nat) (v : Value) (w : World) : Prop :=
  if j = to then (qrow ms d).1 v w else if j = ca ∨ j = mv then Tup N0 l1 d y1 b1 v w else if j = fq then (∃ A n c, v = qV A n c d) else if j = fm then (∃ A n c, v = mV y1 A n c)
  else if j = bq ∨ j = sq then BoxIs QTy 2 N0 v w else if j = bm ∨ j = sm then BoxIs MTy 4 N0 v w else v = K j

theorem bx_type {T U : TypeId} {w : World} {b : Nat} {cs ds : Array Value} (h : Bx T w b cs) (g : Bx U w b ds) : T = U := by
  unfold Bx at h g
  rw [h] at g
  simp only [Option.some.injEq, Obj.cells.injEq] at g
  exact g.2.1
theorem ow_put {T : TypeId} {w w' : World} {b : Nat} {cs : Array Value} (h : Bx T w b cs) (h8 : T ≠ 5) (hs : w.heap.size ≤ w'.heap.size) (hw : ∀ k, k ≠ b → w'.heap[k]? = w.heap[k]?) {lo2 hi2 m c : Nat} {B : Option Addr} {zs : List Int} (ho : Ow 5 .u8 w lo2 hi2 B m c zs) : Ow 5 .u8 w' lo2 hi2 B m c zs := by
  obtain ⟨⟨q1, q2⟩, q3, q4, q5⟩ := ho
  refine ⟨⟨q1, ?_⟩, q3, by omega, q5⟩
  rcases q2 with q2 | ⟨g', c', cur', e, r1, r2, r3⟩
  · exact Or.inl q2
  · refine Or.inr ⟨g', c', cur', e, r1, ?_, r3⟩
    rw [hw g' (fun heq => by
      subst heq
      unfold Bx at h
      rw [h] at r2
      simp only [Option.some.injEq, Obj.cells.injEq] at r2
      exact h8 r2.2.1)]
    exact r2
theorem oe_put {T : TypeId} {w w' : World} {b : Nat} {cs : Array Value} (h : Bx T w b cs) (h8 : T ≠ 5) (hs : w.heap.size ≤ w'.heap.size) (hw : ∀ k, k ≠ b → w'.heap[k]? = w.heap[k]?) {lo hi n c : Nat} {A : Option Addr} {es : List (El Msg)} (o : Oe msg w lo hi A n c es) (hne : blkOf A ≠ some b) : Oe msg w' lo hi A n c es := by
  refine ⟨⟨o.row.1, ?_⟩, fun e he => ow_put h h8 hs hw (o.body e he), o.ds, by have := o.hi_; omega, o.lt⟩
  rcases o.row.2 with h2 | ⟨g, c', cur, e, g1, g2, g3⟩
  · exact Or.inl h2
  · refine Or.inr ⟨g, c', cur, e, g1, ?_, g3⟩
    rw [hw g (fun heq => by
      subst heq
      injection e with e1 e2 e3
      rw [e1] at hne
      exact hne rfl)]
    exact g2
theorem box_below {T : TypeId} {s N0 : Nat} {v : Value} {w w' : World} (h : BoxIs T s N0 v w) (hb : Below w.heap.size w w') : BoxIs T s N0 v w' := by
  obtain ⟨q, cs, e, h1, h2, h3⟩ := h
  exact ⟨q, cs, e, h1, h2.below hb, h3⟩
theorem box_put {T U : TypeId} {s t N0 : Nat} {v x : Value} {w w' : World} (h : BoxIs T s N0 v w) (hp : PutAt U t N0 x w w') (hT : T = U → s = t) : BoxIs T s N0 v w' := by
  obtain ⟨q, cs, e, h1, h2, h3⟩ := h
  obtain ⟨p, cs0, cs1, _, _, g1, g2, g3⟩ := hp
  by_cases hqp : q = p
  · subst hqp
    have hU := bx_type h2 g1
    subst hU
    exact ⟨q, cs1, e, h1, g3.box, by rw [g2, hT rfl]⟩
  · exact ⟨q, cs, e, h1, g3.keep h2 hqp, h3⟩
theorem tup_below {N0 : Nat} {l1 : List Msg} {d : Int} {y1 : Msg} {b1 : Bool} {v : Value} {w w' : World} (h : Tup N0 l1 d y1 b1 v w) (hb : Below w.heap.size w w') : Tup N0 l1 d y1 b1 v w' := by
  obtain ⟨A, n, c, es, f, lo, hi, e, h1, h2, h3, h4, h5⟩ := h
  exact ⟨A, n, c, es, f, lo, hi, e, h1, h2.below hb, h3.below hb, h4, h5⟩
theorem tup_putQ {N0 : Nat} {l1 : List Msg} {d : Int} {y1 : Msg} {b1 : Bool} {v x : Value} {w w' : World} (h : Tup N0 l1 d y1 b1 v w) (hp : PutAt QTy 2 N0 x w w') : Tup N0 l1 d y1 b1 v w' := by
  obtain ⟨A, n, c, es, f, lo, hi, e, h1, h2, h3, h4, h5⟩ := h
  obtain ⟨p, cs0, cs1, _, _, g1, g2, g3⟩ := hp
  exact ⟨A, n, c, es, f, lo, hi, e, h1, rgp.oe_set h2 g1 (by decide) (by decide) g3.below.size (fun k hk => g3.other k hk), ow_put g1 (by decide) g3.below.size (fun k hk => g3.other k hk) h3, h4, h5⟩
theorem tup_putM {N0 : Nat} {l1 : List Msg} {d : Int} {y1 : Msg} {b1 : Bool} {v x : Value} {w w' : World} (h : Tup N0 l1 d y1 b1 v w) (hp : PutAt MTy 4 N0 x w w') (hs : Sep x v) : Tup N0 l1 d y1 b1 v w' := by
  obtain ⟨A, n, c, es, f, lo, hi, e, h1, h2, h3, h4, h5⟩ := h
  obtain ⟨p, cs0, cs1, ex, _, g1, g2, g3⟩ := hp
  exact ⟨A, n, c, es, f, lo, hi, e, h1, oe_put g1 (by decide) g3.below.size (fun k hk => g3.other k hk) h2 (hs p A n c d _ _ ex (Or.inr e)), ow_put g1 (by decide) g3.below.size (fun k hk => g3.other k hk) h3, h4, h5⟩
theorem qrow_putQ {N0 : Nat} {l : List Msg} {d : Int} {v x : Value} {w w' : World} (h : (qrow l d).1 v w) (hp : PutAt QTy 2 N0 x w w') : (qrow l d).1 v w' := by
  obtain ⟨A, n, c, lo, hi, es, e, h1, h2⟩ := h
  obtain ⟨p, cs0, cs1, ex, _, g1, g2, g3⟩ := hp
  exact ⟨A, n, c, lo, hi, es, e, h1, rgp.oe_set h2 g1 (by decide) (by decide) g3.below.size (fun k hk => g3.other k hk)⟩
theorem qrow_putM {N0 : Nat} {l : List Msg} {d : Int} {v x : Value} {w w' : World} (h : (qrow l d).1 v w) (hp : PutAt MTy 4 N0 x w w') (hs : Sep x v) : (qrow l d).1 v w' := by
  obtain ⟨A, n, c, lo, hi, es, e, h1, h2⟩ := h
  obtain ⟨p, cs0, cs1, ex, _, g1, g2, g3⟩ := hp
  exact ⟨A, n, c, lo, hi, es, e, h1, oe_put g1 (by decide) g3.below.size (fun k hk => g3.other k hk) h2 (hs p A n c d undef undef ex (Or.inl e))⟩
/-- What is right stays so. -/
theorem rp_keep {to ca mv fq fm bq bm sq sm N0 : Nat} {ms : List Msg} {d : Int} {l1 : List Msg} {y1 : Msg} {b1 : Bool} {K : Nat → Value} (hsm : sq ≠ sm) (hbm : bm ≠ to ∧ bm ≠ ca ∧ bm ≠ mv) (i j : Nat) (x y : Value) (w w' : World) (hij : i ≠ j)
    (h : Rp to ca mv fq fm bq bm sq sm N0 ms d l1 y1 b1 K j y w) (he : Ep sq sm N0 i x w w') (hd : ∀ k, [(sq, bq), (sm, bm)].lookup i = some k → k ≠ j → Dp to ca mv fq fm bm sq sm k j x y w) : Rp to ca mv fq fm bq bm sq sm N0 ms d l1 y1 b1 K j y w' := by
  unfold Rp at h ⊢
  unfold Ep at he
  by_cases hi1 : i = sq
  · rw [if_pos hi1] at he
    by_cases c0 : j = to
    · rw [if_pos c0] at h ⊢
      exact qrow_putQ h he
    rw [if_neg c0] at h ⊢
    by_cases c1 : j = ca ∨ j = mv
    · rw [if_pos c1] at h ⊢
      exact tup_putQ h he
    rw [if_neg c1] at h ⊢
    by_cases c2 : j = fq
    · rw [if_pos c2] at h ⊢
      exact h
    rw [if_neg c2] at h ⊢
    by_cases c3 : j = fm
    · rw [if_pos c3] at h ⊢
      exact h
    rw [if_neg c3] at h ⊢
    by_cases c4 : j = bq ∨ j = sq
    · rw [if_pos c4] at h ⊢
      exact box_put h he fun _ => rfl
    rw [if_neg c4] at h ⊢
    by_cases c5 : j = bm ∨ j = sm
    · rw [if_pos c5] at h ⊢
      exact box_put h he fun e => absurd e (by decide)
    rw [if_neg c5] at h ⊢
    exact h
  · rw [if_neg hi1] at he
    by_cases hi2 : i = sm
    · rw [if_pos hi2] at he
      have hk : ([(sq, bq), (sm, bm)] : List (Nat × Nat)).lookup i = some bm := by
        subst hi2
        have e1 : (i == sq) = false := by simpa using hi1
        simp [List.lookup_cons, e1]
      by_cases c0 : j = to
      · rw [if_pos c0] at h ⊢
        exact qrow_putM h he ((hd bm hk (by omega)).1 rfl (Or.inl c0))
      rw [if_neg c0] at h ⊢
      by_cases c1 : j = ca ∨ j = mv
      · rw [if_pos c1] at h ⊢
        exact tup_putM h he ((hd bm hk (by omega)).1 rfl (Or.inr c1))
      rw [if_neg c1] at h ⊢
      by_cases c2 : j = fq
      · rw [if_pos c2] at h ⊢
        exact h
      rw [if_neg c2] at h ⊢
      by_cases c3 : j = fm
      · rw [if_pos c3] at h ⊢
        exact h
      rw [if_neg c3] at h ⊢
      by_cases c4 : j = bq ∨ j = sq
      · rw [if_pos c4] at h ⊢
        exact box_put h he fun e => absurd e (by decide)
      rw [if_neg c4] at h ⊢
      by_cases c5 : j = bm ∨ j = sm
      · rw [if_pos c5] at h ⊢
        exact box_put h he fun _ => rfl
      rw [if_neg c5] at h ⊢
      exact h
    · rw [if_neg hi2] at he
      by_cases c0 : j = to
      · rw [if_pos c0] at h ⊢
        exact (qrow ms d).2 _ _ _ h he
      rw [if_neg c0] at h ⊢
      by_cases c1 : j = ca ∨ j = mv
      · rw [if_pos c1] at h ⊢
        exact tup_below h he
      rw [if_neg c1] at h ⊢
      by_cases c2 : j = fq
      · rw [if_pos c2] at h ⊢
        exact h
      rw [if_neg c2] at h ⊢
      by_cases c3 : j = fm
      · rw [if_pos c3] at h ⊢
        exact h
      rw [if_neg c3] at h ⊢
      by_cases c4 : j = bq ∨ j = sq
      · rw [if_pos c4] at h ⊢
        exact box_below h he
      rw [if_neg c4] at h ⊢
      by_cases c5 : j = bm ∨ j = sm
      · rw [if_pos c5] at h ⊢
        exact box_below h he
      rw [if_neg c5] at h ⊢
      exact h
/-- What relates two values stays so. -/
theorem dp_keep {to ca mv fq fm bq bm sq sm N0 : Nat} (hsm : sq ≠ sm) (i j k : Nat) (z x y : Value) (w w' : World) (hij : i ≠ j) (hik : i ≠ k)
    (he : Ep sq sm N0 i z w w') (h : Dp to ca mv fq fm bm sq sm j k x y w) : Dp to ca mv fq fm bm sq sm j k x y w' := by
  obtain ⟨h1, h2, h3, h4, h5⟩ := h
  unfold Ep at he
  refine ⟨h1, fun hj hk q A n c d hx hy => ?_, fun hj hk q y1 A n c hx hy => ?_, h4, h5⟩
  · have hb := h2 hj hk q A n c d hx hy
    have hi1 : i ≠ sq := by omega
    rw [if_neg hi1] at he
    by_cases hi2 : i = sm
    · rw [if_pos hi2] at he
      obtain ⟨p, cs0, cs1, ex, _, g1, g2, g3⟩ := he
      exact g3.keep hb fun e => by subst e; exact absurd (bx_type hb g1) (by decide)
    · rw [if_neg hi2] at he
      exact hb.below he
  · have hb := h3 hj hk q y1 A n c hx hy
    by_cases hi1 : i = sq
    · rw [if_pos hi1] at he
      obtain ⟨p, cs0, cs1, ex, _, g1, g2, g3⟩ := he
      exact g3.keep hb fun e => by subst e; exact absurd (bx_type hb g1) (by decide)
    · rw [if_neg hi1, if_neg (show i ≠ sm by omega)] at he
      exact hb.below he
end Go.Proofs.Ytjmenbpalihnnaa.mq
end

section
namespace Go.Proofs.Ytjmenbpalihnnaa.mq
open Go.RowKit sl harn bx mrw
set_option linter.unusedVariables false
set_option linter.unusedSimpArgs false
theorem sep_blk {y : Value} {N0 : Nat} {w : World} (hb : BoxIs MTy 4 N0 y w) {A : Option Addr} {n c hi : Nat} {es : List (El Msg)} {w3 : World} (ho : Oe msg w3 w.heap.size hi A n c es) : ∀ q, y = .pointer (some ⟨q, 0, none⟩) → blkOf A ≠ some q := by
  intro q hq hA
  obtain ⟨q2, cs, e, _, h2, _⟩ := hb
  rw [e] at hq
  injection hq with hq; injection hq with hq; injection hq with hq _
  subst hq
  have hl := h2.lt
  rcases ho.form with ⟨e0, _⟩ | ⟨g, cur, e0, h3, _⟩
  · rw [e0] at hA; cases hA
  · rw [e0] at hA
    obtain rfl : g = q2 := by simpa using hA
    omega
theorem sep_q {y : Value} {N0 : Nat} {w : World} (hb : BoxIs MTy 4 N0 y w) {A : Option Addr} {n c hi : Nat} {d : Int} {es : List (El Msg)} {w3 : World} (ho : Oe msg w3 w.heap.size hi A n c es) : Sep y (qV A n c d) := by
  intro q A' n' c' d' u v hx hy
  rcases hy with hy | hy
  · injection hy with hy
    have e1 : A = A' := by simpa using (congrArg (fun a : Array Value => a[0]?) hy) |> fun h => by simp at h; exact h.1
    subst e1
    exact sep_blk hb ho q hx
  · cases hy
theorem sep_t {y : Value} {N0 : Nat} {w : World} (hb : BoxIs MTy 4 N0 y w) {A : Option Addr} {n c hi : Nat} {d : Int} {es : List (El Msg)} {w3 : World} (ho : Oe msg w3 w.heap.size hi A n c es) (m b : Value) : Sep y (.tuple #[qV A n c d, m, b]) := by
  intro q A' n' c' d' u v hx hy
  rcases hy with hy | hy
  · cases hy
  · have e1 : A = A' := by
      injection hy with hy
      have h0 := congrArg (fun a : Array Value => a[0]?) hy
      simp at h0
      exact h0.1.1
    subst e1
    exact sep_blk hb ho q hx
theorem sep_own {w : World} {A : Option Addr} {n c lo hi : Nat} {es : List (El Msg)} (ho : Oe msg w lo hi A n c es) : blkOf A ≠ some w.heap.size := by
  intro hA
  rcases ho.form with ⟨e0, _⟩ | ⟨g, cur, e0, _, h3, _⟩
  · rw [e0] at hA; cases hA
  · rw [e0] at hA
    obtain rfl : g = w.heap.size := by simpa using hA
    have := ho.hi_
    omega
theorem sep_new {w : World} {y : Value} (h : (∃ l d, (qrow l d).1 y w) ∨ ∃ N0 l1 d y1 b1, Tup N0 l1 d y1 b1 y w) : Sep (.pointer (some ⟨w.heap.size, 0, none⟩)) y := by
  intro q A n c d u v hx hy
  injection hx with hx; injection hx with hx; injection hx with hx _
  subst hx
  rcases h with ⟨l, d2, A2, n2, c2, lo, hi, es, e, _, ho⟩ | ⟨N0, l1, d2, y1, b1, A2, n2, c2, es, f, lo, hi, e, _, ho, _⟩
  · rcases hy with hy | hy
    · rw [e] at hy
      have e1 : A2 = A := by
        injection hy with hy
        have h0 := congrArg (fun a : Array Value => a[0]?) hy
        simp at h0
        exact h0.1
      subst e1
      exact sep_own ho
    · rw [e] at hy; cases hy
  · rcases hy with hy | hy
    · rw [e] at hy; cases hy
    · rw [e] at hy
      have e1 : A2 = A := by
        injection hy with hy
        have h0 := congrArg (fun a : Array Value => a[0]?) hy
        simp at h0
        exact h0.1.1
      subst e1
      exact sep_own ho
theorem cmp0_mk (a b c : Value) : Cmp0 (.tuple #[a, b, c]) a := fun a' b' c' h => by
  injection h with h
  have h0 := congrArg (fun a : Array Value => a[0]?) h
  simpa using h0
theorem cmp1_mk (a b c : Value) : Cmp1 (.tuple #[a, b, c]) b := fun a' b' c' h => by
  injection h with h
  have h0 := congrArg (fun a : Array Value => a[1]?) h
  simpa using h0
theorem linkQ_mk {q n c : Nat} {A : Option Addr} {d : Int} {w : World} (h : Bx QTy w q #[.slice A n c, .int .i64 d]) : LinkQ (.pointer (some ⟨q, 0, none⟩)) (qV A n c d) w := by
  intro q' A' n' c' d' hx hy
  injection hx with hx; injection hx with hx; injection hx with hx _
  subst hx
  injection hy with hy
  rw [← hy]
  exact h
theorem linkM_mk {q n c : Nat} {A : Option Addr} {y : Msg} {w : World} (h : Bx MTy w q #[.int .i64 y.1, .int .i64 y.2.1, .int .i64 y.2.2.1, .slice A n c]) : LinkM (.pointer (some ⟨q, 0, none⟩)) (mV y A n c) w := by
  intro q' y' A' n' c' hx hy
  injection hx with hx; injection hx with hx; injection hx with hx _
  subst hx
  injection hy with hy
  rw [← hy]
  exact h
theorem t_parts {l1 : List Msg} {y1 : Msg} {b1 : Bool} {d : Int} {w w' : World} {e : Ending} (h : TPost (l1, y1, b1) d w e w') : ∃ (A : Option Addr) (n cap : Nat) (es : List (El Msg)) (f : El Msg), e = .returned (.tuple #[qV A n cap d, mV y1 f.A f.n f.c, .bool b1]) ∧ es.map (·.x) = l1 ∧ Oe msg w' w.heap.size w'.heap.size A n cap es ∧ Ow 5 .u8 w' w.heap.size w'.heap.size f.A f.n f.c y1.2.2.2 ∧ Ds (es ++ [f]) ∧ Below w.heap.size w w' := h
theorem tk_msg (ms : List Msg) (i : Int) : (tk ms i).2.1.2.2.2.length ≤ blk ms := by
  unfold tk
  split
  · rename_i h
    have hin : i.toNat < ms.length := by omega
    show (ms.getD i.toNat zm).2.2.2.length ≤ _
    rw [getD_of (List.getElem?_eq_getElem hin)]
    exact mem_blk (List.getElem_mem hin)
  · exact Nat.zero_le _
theorem kf_parts {ms : List Msg} {es0 : List (El Msg)} {f : El Msg} {zs : List Int} {w w' : World} {lo hi n cap : Nat} {A : Option Addr} {q : Int} {e : Ending} (h : KfPost ms es0 f zs w lo hi A n cap q e w') : ∃ es, e = .returned (.int .i64 (q + tot ms)) ∧ es.map (·.x) = mks q ms ∧ Oe msg w' lo hi A n cap es ∧ Ow 5 .u8 w' lo hi f.A f.n f.c zs ∧ Ds (es ++ [f]) ∧ Tch lo hi w w' := by
  obtain ⟨es, h1, h2, h3, h4, h5, h6, _⟩ := h
  exact ⟨es, h1, h2, h3, h4, h5, h6⟩
end Go.Proofs.Ytjmenbpalihnnaa.mq
end

section
namespace Go.Proofs.Ytjmenbpalihnnaa.mq
open Go.RowKit sl harn bx mrw drk stw draw
set_option linter.unusedVariables false
set_option linter.unusedSimpArgs false

theorem made_u8 (n : Nat) : (madeCells #[Value.int .u8 0] n).toList = (List.replicate n (0 : Int)).map (Value.int .u8) := by
  apply List.ext_getElem
  · simp [size_madeCells]
  · intro i h1 h2
    simp [madeCells, Nat.mod_one]
theorem ow_made8 (w : World) (n : Nat) (hn : n ≤ 67108864) : Ow 5 .u8 (w.alloc (.cells (madeCells #[Value.int .u8 0] n) 5)) w.heap.size (w.alloc (.cells (madeCells #[Value.int .u8 0] n) 5)).heap.size (some ⟨w.heap.size, 0, none⟩) n n (List.replicate n 0) :=
  Ow.lit w _ _ (made_u8 n) (fun z hz => by rw [List.eq_of_mem_replicate hz]; decide) (by unfold maxLen; simp; omega) (size_madeCells _ _)
/-- A drawn message. -/
def AnyPost (p : Nat) (a : Option Addr) (len cap : Nat) (w : World) (e : Ending) (w' : World) : Prop :=
  ∃ (x : Msg) (A : Option Addr) (n c : Nat), e = .returned (mV x A n c) ∧ n ≤ 101 ∧ Ow 5 .u8 w' w.heap.size w'.heap.size A n c x.2.2.2 ∧ Keep p w w' ∧ Cur w' p a len cap
set_option maxRecDepth 100000 in
set_option maxHeartbeats 4000000 in
theorem l17any (w : World) (p : Nat) (a : Option Addr) (len cap : Nat) (hc : Cur w p a len cap)  :
    Calls Try.prog 61 #[.pointer (some ⟨p, 0, none⟩)] w (AnyPost p a len cap w) := by
  have CW := Lib.hid hc
  have P0 := Lib.hid hc.lt
  skip
  clear hc
  go_enter Try.func61, Try.ntmps61
  go_upto_region 1 with fail
  obtain ⟨w0, hW⟩ : ∃ w0, w.alloc (.cells #[.int .i64 0, .int .i64 0, .int .i64 0, .slice none 0 0] 28) = w0 := ⟨_, rfl⟩
  rw [hW]
  have K0 := Lib.hid (show Keep p w w0 by rw [← hW]; exact (Keep.refl p w).alloc _)
  have C0 := Lib.hid (show Cur w0 p a len cap by rw [← hW]; exact (CW.out).alloc _)
  have Z0 := Lib.hid (show Bx 28 w0 (w.heap.size) #[.int .i64 0, .int .i64 0, .int .i64 0, .slice none 0 0] by
      rw [← hW]
      have hh := Bx.made 28 w #[.int .i64 0, .int .i64 0, .int .i64 0, .slice none 0 0]
      exact hh)
  clear hW
  have LTZ := Lib.hid Z0.out.lt
  go_wp2_with fail
  (with_reducible refine (draw.pickIn 0 63 4 (by omega) (by omega) _ p a len cap C0.out #[.int .i64 0, .int .i64 1, .int .i64 2, .int .i64 63] rfl (by decide)).mono ?_)
  rintro e w1 ⟨x, rfl, hx0, hx1, hk, hc⟩
  have Hx := Lib.hid (show 0 ≤ x ∧ x ≤ 63 from ⟨hx0, hx1⟩)
  have SS1 := Lib.hid hk.size
  have K1 := Lib.hid (K0.out.trans hk)
  have C1 := Lib.hid (hc)
  have Z1 := Lib.hid (drk.bx_keep Z0.out hk (by have h0 := P0.out; have hs0 := LTZ.out; have hs1 := SS1.out; first | omega | (simp <;> omega)))
  clear hk hc hx0 hx1 K0 C0 Z0
  go_wp2_with fail
  (with_reducible refine (draw.below 4 (by omega) _ p a len cap C1.out).mono ?_)
  rintro e w2 ⟨y, rfl, hx0, hx1, hk, hc⟩
  have Hy := Lib.hid (show 0 ≤ y ∧ y < 4 from ⟨hx0, hx1 (by omega)⟩)
  have SS2 := Lib.hid hk.size
  have K2 := Lib.hid (K1.out.trans hk)
  have C2 := Lib.hid (hc)
  have Z2 := Lib.hid (drk.bx_keep Z1.out hk (by have h0 := P0.out; have hs0 := LTZ.out; have hs1 := SS1.out; have hs2 := SS2.out; first | omega | (simp <;> omega)))
  clear hk hc hx0 hx1 K1 C1 Z1
  go_wp2_with fail
  (with_reducible refine (draw.below 20 (by omega) _ p a len cap C2.out).mono ?_)
  rintro e w3 ⟨t, rfl, hx0, hx1, hk, hc⟩
  have Ht := Lib.hid (show 0 ≤ t ∧ t < 20 from ⟨hx0, hx1 (by omega)⟩)
  have SS3 := Lib.hid hk.size
  have K3 := Lib.hid (K2.out.trans hk)
  have C3 := Lib.hid (hc)
  have Z3 := Lib.hid (drk.bx_keep Z2.out hk (by have h0 := P0.out; have hs0 := LTZ.out; have hs1 := SS1.out; have hs2 := SS2.out; have hs3 := SS3.out; first | omega | (simp <;> omega)))
  clear hk hc hx0 hx1 K2 C2 Z2
  go_wp2_with fail
  (with_reducible refine (draw.below 4 (by omega) _ p a len cap C3.out).mono ?_)
  rintro e w4 ⟨v, rfl, hx0, hx1, hk, hc⟩
  have Hv := Lib.hid (show 0 ≤ v ∧ v < 4 from ⟨hx0, hx1 (by omega)⟩)
  have SS4 := Lib.hid hk.size
  have K4 := Lib.hid (K3.out.trans hk)
  have C4 := Lib.hid (hc)
  have Z4 := Lib.hid (drk.bx_keep Z3.out hk (by have h0 := P0.out; have hs0 := LTZ.out; have hs1 := SS1.out; have hs2 := SS2.out; have hs3 := SS3.out; have hs4 := SS4.out; first | omega | (simp <;> omega)))
  clear hk hc hx0 hx1 K3 C3 Z3
  go_wp2_with fail
  (with_reducible refine (draw.bytes v Hv.out.1 (by have := Hv.out.2; omega) _ p a len cap C4.out).mono ?_)
  rintro e w5 ⟨A, n, c, zs, rfl, hn, ho, hk, hc⟩
  have HN := Lib.hid (show n ≤ 3 by have := Hv.out.2; omega)
  have SS5 := Lib.hid hk.size
  have K5 := Lib.hid (K4.out.trans hk)
  have C5 := Lib.hid (hc)
  have Z5 := Lib.hid (drk.bx_keep Z4.out hk (by have h0 := P0.out; have hs0 := LTZ.out; have hs1 := SS1.out; have hs2 := SS2.out; have hs3 := SS3.out; have hs4 := SS4.out; have hs5 := SS5.out; first | omega | (simp <;> omega)))
  clear hk hc hn K4 C4 Z4
  have R5 := Lib.hid ho
  clear ho
  go_upto_region 2 with fail
  obtain ⟨b, hbb⟩ : ∃ b, w5.heap.size = b := ⟨_, rfl⟩
  generalize hW : w5.alloc (.cells #[.int .i64 x, .int .i64 y, .int .i64 t, .slice A n c] 28) = w6
  have LM := Lib.hid (show w.heap.size ≤ b ∧ w.heap.size < b ∧ w5.heap.size ≤ b by have h1 := K5.out.size; have h2Z := Z5.out.lt; have h2R := R5.out.hi_; have h3 := hbb; omega)
  have M6 := Lib.hid (show Bx 28 w6 b #[.int .i64 x, .int .i64 y, .int .i64 t, .slice A n c] by rw [← hW, ← hbb]; exact Bx.made _ _ _)
  have hb : Below w5.heap.size w5 w6 := by rw [← hW]; exact below_box _ _
  (try rw [hbb])
  clear hW hbb
  have SS6 := Lib.hid hb.size
  have K6 := Lib.hid (drk.later K5.out K5.out.size hb)
  have C6 := Lib.hid (drk.cur_below C5.out hb)
  have Z6 := Lib.hid (Z5.out.below hb)
  have R6 := Lib.hid (R5.out.below hb)
  clear hb K5 C5 Z5 R5
  have LWM := Lib.hid M6.out.lt
  go_wp2_with fail
  (with_reducible refine (draw.below 14 (by omega) _ p a len cap C6.out).mono ?_)
  rintro e w7 ⟨q, rfl, hx0, hx1, hk, hc⟩
  have Hq := Lib.hid (show 0 ≤ q ∧ q < 14 from ⟨hx0, hx1 (by omega)⟩)
  have SS7 := Lib.hid hk.size
  have K7 := Lib.hid (K6.out.trans hk)
  have C7 := Lib.hid (hc)
  have Z7 := Lib.hid (drk.bx_keep Z6.out hk (by have hlM := LM.out; have h0 := P0.out; have hs0 := LTZ.out; have hs1 := SS1.out; have hs2 := SS2.out; have hs3 := SS3.out; have hs4 := SS4.out; have hs5 := SS5.out; have hs6 := SS6.out; have hs7 := LWM.out; have hs8 := SS7.out; first | omega | (simp <;> omega)))
  have M7 := Lib.hid (drk.bx_keep M6.out hk (by have hlM := LM.out; have h0 := P0.out; have hs0 := LTZ.out; have hs1 := SS1.out; have hs2 := SS2.out; have hs3 := SS3.out; have hs4 := SS4.out; have hs5 := SS5.out; have hs6 := SS6.out; have hs7 := LWM.out; have hs8 := SS7.out; first | omega | (simp <;> omega)))
  have R7 := Lib.hid (draw.ow_keep R6.out hk (by have hlM := LM.out; have h0 := P0.out; have hs0 := LTZ.out; have hs1 := SS1.out; have hs2 := SS2.out; have hs3 := SS3.out; have hs4 := SS4.out; have hs5 := SS5.out; have hs6 := SS6.out; have hs7 := LWM.out; have hs8 := SS7.out; first | omega | (simp <;> omega)))
  clear hk hc hx0 hx1 K6 C6 Z6 M6 R6
  by_cases h0 : q = 0
  · subst h0
    go_wp2_with fail
    (with_reducible refine (draw.pickIn (-1) 16 3 (by omega) (by omega) _ p a len cap C7.out #[.int .i64 (-1), .int .i64 15, .int .i64 16] rfl (by decide)).mono ?_)
    rintro e w8 ⟨y2, rfl, hx0, hx1, hk, hc⟩
    have Hy2 := Lib.hid (show -1 ≤ y2 ∧ y2 ≤ 16 from ⟨hx0, hx1⟩)
    have SS8 := Lib.hid hk.size
    have K8 := Lib.hid (K7.out.trans hk)
    have C8 := Lib.hid (hc)
    have Z8 := Lib.hid (drk.bx_keep Z7.out hk (by have hlM := LM.out; have h0 := P0.out; have hs0 := LTZ.out; have hs1 := SS1.out; have hs2 := SS2.out; have hs3 := SS3.out; have hs4 := SS4.out; have hs5 := SS5.out; have hs6 := SS6.out; have hs7 := LWM.out; have hs8 := SS7.out; have hs9 := SS8.out; first | omega | (simp <;> omega)))
    have M8 := Lib.hid (drk.bx_keep M7.out hk (by have hlM := LM.out; have h0 := P0.out; have hs0 := LTZ.out; have hs1 := SS1.out; have hs2 := SS2.out; have hs3 := SS3.out; have hs4 := SS4.out; have hs5 := SS5.out; have hs6 := SS6.out; have hs7 := LWM.out; have hs8 := SS7.out; have hs9 := SS8.out; first | omega | (simp <;> omega)))
    have R8 := Lib.hid (draw.ow_keep R7.out hk (by have hlM := LM.out; have h0 := P0.out; have hs0 := LTZ.out; have hs1 := SS1.out; have hs2 := SS2.out; have hs3 := SS3.out; have hs4 := SS4.out; have hs5 := SS5.out; have hs6 := SS6.out; have hs7 := LWM.out; have hs8 := SS7.out; have hs9 := SS8.out; first | omega | (simp <;> omega)))
    clear hk hc hx0 hx1 K7 C7 Z7 M7 R7
    have cM0 : w8.cell? ⟨b, 0, none⟩ = some (.int .i64 x) := M8.out.cell 0
    have fM0 : w8.frozen? ⟨b, 0, none⟩ = false := M8.out.free 0
    go_upto_region 11 with fail
    clear cM0 fM0
    have BB := Lib.hid (show Below w.heap.size w8 (w8.setCell ⟨b, 0, none⟩ (.int .i64 y2)) from (Below.refl _ _).setCell (p := ⟨b, 0, none⟩) (by have hlM := LM.out; have h0 := P0.out; have hs0 := LTZ.out; have hs1 := SS1.out; have hs2 := SS2.out; have hs3 := SS3.out; have hs4 := SS4.out; have hs5 := SS5.out; have hs6 := SS6.out; have hs7 := LWM.out; have hs8 := SS7.out; have hs9 := SS8.out; (try simp only []); omega) _)
    have hWW : (w8.setCell ⟨b, 0, none⟩ (.int .i64 y2)) = (w8.setCell ⟨b, 0, none⟩ (.int .i64 y2)) := rfl
    obtain ⟨w9, hW⟩ : ∃ wy, (w8.setCell ⟨b, 0, none⟩ (.int .i64 y2)) = wy := ⟨_, rfl⟩
    rw [hW]
    clear hWW
    have K9 := Lib.hid (drk.later K8.out (Nat.le_refl _) (hW ▸ BB.out))
    have C9 := Lib.hid (drk.cur_later CW.out K8.out C8.out (Nat.le_refl _) (hW ▸ BB.out))
    have Z9 := Lib.hid (show Bx 28 w9 (w.heap.size) #[.int .i64 0, .int .i64 0, .int .i64 0, .slice none 0 0] by rw [← hW]; exact (Z8.out.other (by have hlM := LM.out; have h0 := P0.out; have hs0 := LTZ.out; have hs1 := SS1.out; have hs2 := SS2.out; have hs3 := SS3.out; have hs4 := SS4.out; have hs5 := SS5.out; have hs6 := SS6.out; have hs7 := LWM.out; have hs8 := SS7.out; have hs9 := SS8.out; first | omega | (simp <;> omega)) _ _))
    have M9 := Lib.hid (show Bx 28 w9 (b) #[.int .i64 y2, .int .i64 y, .int .i64 t, .slice A n c] by rw [← hW]; exact (M8.out.set 0 _))
    have R9 := Lib.hid (show Ow 5 .u8 w9 (w4.heap.size) (w5.heap.size) A n c zs by rw [← hW]; exact (R8.out.same (by simp [World.setCell]) fun b h1 h2 => by rw [Below.heap_setCell _ _ _ _ (by have hlM := LM.out; have h0 := P0.out; have hs0 := LTZ.out; have hs1 := SS1.out; have hs2 := SS2.out; have hs3 := SS3.out; have hs4 := SS4.out; have hs5 := SS5.out; have hs6 := SS6.out; have hs7 := LWM.out; have hs8 := SS7.out; have hs9 := SS8.out; first | omega | (simp <;> omega))]))
    clear hW BB K8 C8 Z8 M8 R8
    go_wp2_with (first | (refine stw.list_load rfl 28 _ rfl (b) rfl 28 _ M9.out Try.underlying28 rfl szM ?_) | (refine stw.list_store rfl 28 _ _ rfl (w.heap.size) #[.int .i64 y2, .int .i64 y, .int .i64 t, .slice A n c] rfl rfl 28 _ Z9.out rfl szM (oneM _ _ _ _ _ _) ?_; intro wz10 hz))
    have K10 := Lib.hid (drk.later K9.out (by have hlM := LM.out; have h0 := P0.out; have hs0 := LTZ.out; have hs1 := SS1.out; have hs2 := SS2.out; have hs3 := SS3.out; have hs4 := SS4.out; have hs5 := SS5.out; have hs6 := SS6.out; have hs7 := LWM.out; have hs8 := SS7.out; have hs9 := SS8.out; first | omega | (simp <;> omega)) hz.below)
    have C10 := Lib.hid (drk.cur_later CW.out K9.out C9.out (by have hlM := LM.out; have h0 := P0.out; have hs0 := LTZ.out; have hs1 := SS1.out; have hs2 := SS2.out; have hs3 := SS3.out; have hs4 := SS4.out; have hs5 := SS5.out; have hs6 := SS6.out; have hs7 := LWM.out; have hs8 := SS7.out; have hs9 := SS8.out; first | omega | (simp <;> omega)) hz.below)
    have Z10 := Lib.hid (hz.box)
    have M10 := Lib.hid (hz.keep M9.out (by have hlM := LM.out; have h0 := P0.out; have hs0 := LTZ.out; have hs1 := SS1.out; have hs2 := SS2.out; have hs3 := SS3.out; have hs4 := SS4.out; have hs5 := SS5.out; have hs6 := SS6.out; have hs7 := LWM.out; have hs8 := SS7.out; have hs9 := SS8.out; first | omega | (simp <;> omega)))
    have R10 := Lib.hid (R9.out.same hz.below.size fun b h1 h2 => hz.other b (by have hlM := LM.out; have h0 := P0.out; have hs0 := LTZ.out; have hs1 := SS1.out; have hs2 := SS2.out; have hs3 := SS3.out; have hs4 := SS4.out; have hs5 := SS5.out; have hs6 := SS6.out; have hs7 := LWM.out; have hs8 := SS7.out; have hs9 := SS8.out; first | omega | (simp <;> omega)))
    clear hz K9 C9 Z9 M9 R9
    (try simp only [Exit.inBlock, Exit.then])
    refine bodyPost_ret (v := .agg #[.int .i64 y2, .int .i64 y, .int .i64 t, .slice A n c]) ?_ rfl ?_
    · rw [results_cell1 rfl]
      exact stw.back Z10.out Try.underlying28 rfl szM
    · exact ⟨(y2, y, t, zs), A, n, c, rfl, by have h1 := HN.out; omega, (R10.out).up.down (by have hlM := LM.out; have h0 := P0.out; have hs0 := LTZ.out; have hs1 := SS1.out; have hs2 := SS2.out; have hs3 := SS3.out; have hs4 := SS4.out; have hs5 := SS5.out; have hs6 := SS6.out; have hs7 := LWM.out; have hs8 := SS7.out; have hs9 := SS8.out; first | omega | (simp <;> omega)), K10.out, C10.out⟩
  · by_cases h1 : q = 1
    · subst h1
      go_wp2_with fail
      (with_reducible refine (draw.pickIn (-1) 4 2 (by omega) (by omega) _ p a len cap C7.out #[.int .i64 (-1), .int .i64 4] rfl (by decide)).mono ?_)
      rintro e w8 ⟨y2, rfl, hx0, hx1, hk, hc⟩
      have Hy2 := Lib.hid (show -1 ≤ y2 ∧ y2 ≤ 4 from ⟨hx0, hx1⟩)
      have SS8 := Lib.hid hk.size
      have K8 := Lib.hid (K7.out.trans hk)
      have C8 := Lib.hid (hc)
      have Z8 := Lib.hid (drk.bx_keep Z7.out hk (by have hlM := LM.out; have h0 := P0.out; have hs0 := LTZ.out; have hs1 := SS1.out; have hs2 := SS2.out; have hs3 := SS3.out; have hs4 := SS4.out; have hs5 := SS5.out; have hs6 := SS6.out; have hs7 := LWM.out; have hs8 := SS7.out; have hs9 := SS8.out; first | omega | (simp <;> omega)))
      have M8 := Lib.hid (drk.bx_keep M7.out hk (by have hlM := LM.out; have h0 := P0.out; have hs0 := LTZ.out; have hs1 := SS1.out; have hs2 := SS2.out; have hs3 := SS3.out; have hs4 := SS4.out; have hs5 := SS5.out; have hs6 := SS6.out; have hs7 := LWM.out; have hs8 := SS7.out; have hs9 := SS8.out; first | omega | (simp <;> omega)))
      have R8 := Lib.hid (draw.ow_keep R7.out hk (by have hlM := LM.out; have h0 := P0.out; have hs0 := LTZ.out; have hs1 := SS1.out; have hs2 := SS2.out; have hs3 := SS3.out; have hs4 := SS4.out; have hs5 := SS5.out; have hs6 := SS6.out; have hs7 := LWM.out; have hs8 := SS7.out; have hs9 := SS8.out; first | omega | (simp <;> omega)))
      clear hk hc hx0 hx1 K7 C7 Z7 M7 R7
      have cM1 : w8.cell? ⟨b, 1, none⟩ = some (.int .i64 y) := M8.out.cell 1
      have fM1 : w8.frozen? ⟨b, 1, none⟩ = false := M8.out.free 1
      go_upto_region 11 with fail
      clear cM1 fM1
      have BB := Lib.hid (show Below w.heap.size w8 (w8.setCell ⟨b, 1, none⟩ (.int .i64 y2)) from (Below.refl _ _).setCell (p := ⟨b, 1, none⟩) (by have hlM := LM.out; have h0 := P0.out; have hs0 := LTZ.out; have hs1 := SS1.out; have hs2 := SS2.out; have hs3 := SS3.out; have hs4 := SS4.out; have hs5 := SS5.out; have hs6 := SS6.out; have hs7 := LWM.out; have hs8 := SS7.out; have hs9 := SS8.out; (try simp only []); omega) _)
      have hWW : (w8.setCell ⟨b, 1, none⟩ (.int .i64 y2)) = (w8.setCell ⟨b, 1, none⟩ (.int .i64 y2)) := rfl
      obtain ⟨w9, hW⟩ : ∃ wy, (w8.setCell ⟨b, 1, none⟩ (.int .i64 y2)) = wy := ⟨_, rfl⟩
      rw [hW]
      clear hWW
      have K9 := Lib.hid (drk.later K8.out (Nat.le_refl _) (hW ▸ BB.out))
      have C9 := Lib.hid (drk.cur_later CW.out K8.out C8.out (Nat.le_refl _) (hW ▸ BB.out))
      have Z9 := Lib.hid (show Bx 28 w9 (w.heap.size) #[.int .i64 0, .int .i64 0, .int .i64 0, .slice none 0 0] by rw [← hW]; exact (Z8.out.other (by have hlM := LM.out; have h0 := P0.out; have hs0 := LTZ.out; have hs1 := SS1.out; have hs2 := SS2.out; have hs3 := SS3.out; have hs4 := SS4.out; have hs5 := SS5.out; have hs6 := SS6.out; have hs7 := LWM.out; have hs8 := SS7.out; have hs9 := SS8.out; first | omega | (simp <;> omega)) _ _))
      have M9 := Lib.hid (show Bx 28 w9 (b) #[.int .i64 x, .int .i64 y2, .int .i64 t, .slice A n c] by rw [← hW]; exact (M8.out.set 1 _))
      have R9 := Lib.hid (show Ow 5 .u8 w9 (w4.heap.size) (w5.heap.size) A n c zs by rw [← hW]; exact (R8.out.same (by simp [World.setCell]) fun b h1 h2 => by rw [Below.heap_setCell _ _ _ _ (by have hlM := LM.out; have h0 := P0.out; have hs0 := LTZ.out; have hs1 := SS1.out; have hs2 := SS2.out; have hs3 := SS3.out; have hs4 := SS4.out; have hs5 := SS5.out; have hs6 := SS6.out; have hs7 := LWM.out; have hs8 := SS7.out; have hs9 := SS8.out; first | omega | (simp <;> omega))]))
      clear hW BB K8 C8 Z8 M8 R8
      go_wp2_with (first | (refine stw.list_load rfl 28 _ rfl (b) rfl 28 _ M9.out Try.underlying28 rfl szM ?_) | (refine stw.list_store rfl 28 _ _ rfl (w.heap.size) #[.int .i64 x, .int .i64 y2, .int .i64 t, .slice A n c] rfl rfl 28 _ Z9.out rfl szM (oneM _ _ _ _ _ _) ?_; intro wz10 hz))
      have K10 := Lib.hid (drk.later K9.out (by have hlM := LM.out; have h0 := P0.out; have hs0 := LTZ.out; have hs1 := SS1.out; have hs2 := SS2.out; have hs3 := SS3.out; have hs4 := SS4.out; have hs5 := SS5.out; have hs6 := SS6.out; have hs7 := LWM.out; have hs8 := SS7.out; have hs9 := SS8.out; first | omega | (simp <;> omega)) hz.below)
      have C10 := Lib.hid (drk.cur_later CW.out K9.out C9.out (by have hlM := LM.out; have h0 := P0.out; have hs0 := LTZ.out; have hs1 := SS1.out; have hs2 := SS2.out; have hs3 := SS3.out; have hs4 := SS4.out; have hs5 := SS5.out; have hs6 := SS6.out; have hs7 := LWM.out; have hs8 := SS7.out; have hs9 := SS8.out; first | omega | (simp <;> omega)) hz.below)
      have Z10 := Lib.hid (hz.box)
      have M10 := Lib.hid (hz.keep M9.out (by have hlM := LM.out; have h0 := P0.out; have hs0 := LTZ.out; have hs1 := SS1.out; have hs2 := SS2.out; have hs3 := SS3.out; have hs4 := SS4.out; have hs5 := SS5.out; have hs6 := SS6.out; have hs7 := LWM.out; have hs8 := SS7.out; have hs9 := SS8.out; first | omega | (simp <;> omega)))
      have R10 := Lib.hid (R9.out.same hz.below.size fun b h1 h2 => hz.other b (by have hlM := LM.out; have h0 := P0.out; have hs0 := LTZ.out; have hs1 := SS1.out; have hs2 := SS2.out; have hs3 := SS3.out; have hs4 := SS4.out; have hs5 := SS5.out; have hs6 := SS6.out; have hs7 := LWM.out; have hs8 := SS7.out; have hs9 := SS8.out; first | omega | (simp <;> omega)))
      clear hz K9 C9 Z9 M9 R9
      (try simp only [Exit.inBlock, Exit.then])
      refine bodyPost_ret (v := .agg #[.int .i64 x, .int .i64 y2, .int .i64 t, .slice A n c]) ?_ rfl ?_
      · rw [results_cell1 rfl]
        exact stw.back Z10.out Try.underlying28 rfl szM
      · exact ⟨(x, y2, t, zs), A, n, c, rfl, by have h1 := HN.out; omega, (R10.out).up.down (by have hlM := LM.out; have h0 := P0.out; have hs0 := LTZ.out; have hs1 := SS1.out; have hs2 := SS2.out; have hs3 := SS3.out; have hs4 := SS4.out; have hs5 := SS5.out; have hs6 := SS6.out; have hs7 := LWM.out; have hs8 := SS7.out; have hs9 := SS8.out; first | omega | (simp <;> omega)), K10.out, C10.out⟩
    · by_cases h2 : q = 2
      · subst h2
        go_wp2_with fail
        (with_reducible refine (draw.pickIn (-1) 1000000000001 3 (by omega) (by omega) _ p a len cap C7.out #[.int .i64 (-1), .int .i64 1000000000000, .int .i64 1000000000001] rfl (by decide)).mono ?_)
        rintro e w8 ⟨y2, rfl, hx0, hx1, hk, hc⟩
        have Hy2 := Lib.hid (show -1 ≤ y2 ∧ y2 ≤ 1000000000001 from ⟨hx0, hx1⟩)
        have SS8 := Lib.hid hk.size
        have K8 := Lib.hid (K7.out.trans hk)
        have C8 := Lib.hid (hc)
        have Z8 := Lib.hid (drk.bx_keep Z7.out hk (by have hlM := LM.out; have h0 := P0.out; have hs0 := LTZ.out; have hs1 := SS1.out; have hs2 := SS2.out; have hs3 := SS3.out; have hs4 := SS4.out; have hs5 := SS5.out; have hs6 := SS6.out; have hs7 := LWM.out; have hs8 := SS7.out; have hs9 := SS8.out; first | omega | (simp <;> omega)))
        have M8 := Lib.hid (drk.bx_keep M7.out hk (by have hlM := LM.out; have h0 := P0.out; have hs0 := LTZ.out; have hs1 := SS1.out; have hs2 := SS2.out; have hs3 := SS3.out; have hs4 := SS4.out; have hs5 := SS5.out; have hs6 := SS6.out; have hs7 := LWM.out; have hs8 := SS7.out; have hs9 := SS8.out; first | omega | (simp <;> omega)))
        have R8 := Lib.hid (draw.ow_keep R7.out hk (by have hlM := LM.out; have h0 := P0.out; have hs0 := LTZ.out; have hs1 := SS1.out; have hs2 := SS2.out; have hs3 := SS3.out; have hs4 := SS4.out; have hs5 := SS5.out; have hs6 := SS6.out; have hs7 := LWM.out; have hs8 := SS7.out; have hs9 := SS8.out; first | omega | (simp <;> omega)))
        clear hk hc hx0 hx1 K7 C7 Z7 M7 R7
        have cM2 : w8.cell? ⟨b, 2, none⟩ = some (.int .i64 t) := M8.out.cell 2
        have fM2 : w8.frozen? ⟨b, 2, none⟩ = false := M8.out.free 2
        go_upto_region 11 with fail
        clear cM2 fM2
        have BB := Lib.hid (show Below w.heap.size w8 (w8.setCell ⟨b, 2, none⟩ (.int .i64 y2)) from (Below.refl _ _).setCell (p := ⟨b, 2, none⟩) (by have hlM := LM.out; have h0 := P0.out; have hs0 := LTZ.out; have hs1 := SS1.out; have hs2 := SS2.out; have hs3 := SS3.out; have hs4 := SS4.out; have hs5 := SS5.out; have hs6 := SS6.out; have hs7 := LWM.out; have hs8 := SS7.out; have hs9 := SS8.out; (try simp only []); omega) _)
        have hWW : (w8.setCell ⟨b, 2, none⟩ (.int .i64 y2)) = (w8.setCell ⟨b, 2, none⟩ (.int .i64 y2)) := rfl
        obtain ⟨w9, hW⟩ : ∃ wy, (w8.setCell ⟨b, 2, none⟩ (.int .i64 y2)) = wy := ⟨_, rfl⟩
        rw [hW]
        clear hWW
        have K9 := Lib.hid (drk.later K8.out (Nat.le_refl _) (hW ▸ BB.out))
        have C9 := Lib.hid (drk.cur_later CW.out K8.out C8.out (Nat.le_refl _) (hW ▸ BB.out))
        have Z9 := Lib.hid (show Bx 28 w9 (w.heap.size) #[.int .i64 0, .int .i64 0, .int .i64 0, .slice none 0 0] by rw [← hW]; exact (Z8.out.other (by have hlM := LM.out; have h0 := P0.out; have hs0 := LTZ.out; have hs1 := SS1.out; have hs2 := SS2.out; have hs3 := SS3.out; have hs4 := SS4.out; have hs5 := SS5.out; have hs6 := SS6.out; have hs7 := LWM.out; have hs8 := SS7.out; have hs9 := SS8.out; first | omega | (simp <;> omega)) _ _))
        have M9 := Lib.hid (show Bx 28 w9 (b) #[.int .i64 x, .int .i64 y, .int .i64 y2, .slice A n c] by rw [← hW]; exact (M8.out.set 2 _))
        have R9 := Lib.hid (show Ow 5 .u8 w9 (w4.heap.size) (w5.heap.size) A n c zs by rw [← hW]; exact (R8.out.same (by simp [World.setCell]) fun b h1 h2 => by rw [Below.heap_setCell _ _ _ _ (by have hlM := LM.out; have h0 := P0.out; have hs0 := LTZ.out; have hs1 := SS1.out; have hs2 := SS2.out; have hs3 := SS3.out; have hs4 := SS4.out; have hs5 := SS5.out; have hs6 := SS6.out; have hs7 := LWM.out; have hs8 := SS7.out; have hs9 := SS8.out; first | omega | (simp <;> omega))]))
        clear hW BB K8 C8 Z8 M8 R8
        go_wp2_with (first | (refine stw.list_load rfl 28 _ rfl (b) rfl 28 _ M9.out Try.underlying28 rfl szM ?_) | (refine stw.list_store rfl 28 _ _ rfl (w.heap.size) #[.int .i64 x, .int .i64 y, .int .i64 y2, .slice A n c] rfl rfl 28 _ Z9.out rfl szM (oneM _ _ _ _ _ _) ?_; intro wz10 hz))
        have K10 := Lib.hid (drk.later K9.out (by have hlM := LM.out; have h0 := P0.out; have hs0 := LTZ.out; have hs1 := SS1.out; have hs2 := SS2.out; have hs3 := SS3.out; have hs4 := SS4.out; have hs5 := SS5.out; have hs6 := SS6.out; have hs7 := LWM.out; have hs8 := SS7.out; have hs9 := SS8.out; first | omega | (simp <;> omega)) hz.below)
        have C10 := Lib.hid (drk.cur_later CW.out K9.out C9.out (by have hlM := LM.out; have h0 := P0.out; have hs0 := LTZ.out; have hs1 := SS1.out; have hs2 := SS2.out; have hs3 := SS3.out; have hs4 := SS4.out; have hs5 := SS5.out; have hs6 := SS6.out; have hs7 := LWM.out; have hs8 := SS7.out; have hs9 := SS8.out; first | omega | (simp <;> omega)) hz.below)
        have Z10 := Lib.hid (hz.box)
        have M10 := Lib.hid (hz.keep M9.out (by have hlM := LM.out; have h0 := P0.out; have hs0 := LTZ.out; have hs1 := SS1.out; have hs2 := SS2.out; have hs3 := SS3.out; have hs4 := SS4.out; have hs5 := SS5.out; have hs6 := SS6.out; have hs7 := LWM.out; have hs8 := SS7.out; have hs9 := SS8.out; first | omega | (simp <;> omega)))
        have R10 := Lib.hid (R9.out.same hz.below.size fun b h1 h2 => hz.other b (by have hlM := LM.out; have h0 := P0.out; have hs0 := LTZ.out; have hs1 := SS1.out; have hs2 := SS2.out; have hs3 := SS3.out; have hs4 := SS4.out; have hs5 := SS5.out; have hs6 := SS6.out; have hs7 := LWM.out; have hs8 := SS7.out; have hs9 := SS8.out; first | omega | (simp <;> omega)))
        clear hz K9 C9 Z9 M9 R9
        (try simp only [Exit.inBlock, Exit.then])
        refine bodyPost_ret (v := .agg #[.int .i64 x, .int .i64 y, .int .i64 y2, .slice A n c]) ?_ rfl ?_
        · rw [results_cell1 rfl]
          exact stw.back Z10.out Try.underlying28 rfl szM
        · exact ⟨(x, y, y2, zs), A, n, c, rfl, by have h1 := HN.out; omega, (R10.out).up.down (by have hlM := LM.out; have h0 := P0.out; have hs0 := LTZ.out; have hs1 := SS1.out; have hs2 := SS2.out; have hs3 := SS3.out; have hs4 := SS4.out; have hs5 := SS5.out; have hs6 := SS6.out; have hs7 := LWM.out; have hs8 := SS7.out; have hs9 := SS8.out; first | omega | (simp <;> omega)), K10.out, C10.out⟩
      · by_cases h3 : q = 3
        · subst h3
          go_wp2_with fail
          (with_reducible refine (draw.below 2 (by omega) _ p a len cap C7.out).mono ?_)
          rintro e w8 ⟨g, rfl, hx0, hx1, hk, hc⟩
          have Hg := Lib.hid (show 0 ≤ g ∧ g < 2 from ⟨hx0, hx1 (by omega)⟩)
          have SS8 := Lib.hid hk.size
          have K8 := Lib.hid (K7.out.trans hk)
          have C8 := Lib.hid (hc)
          have Z8 := Lib.hid (drk.bx_keep Z7.out hk (by have hlM := LM.out; have h0 := P0.out; have hs0 := LTZ.out; have hs1 := SS1.out; have hs2 := SS2.out; have hs3 := SS3.out; have hs4 := SS4.out; have hs5 := SS5.out; have hs6 := SS6.out; have hs7 := LWM.out; have hs8 := SS7.out; have hs9 := SS8.out; first | omega | (simp <;> omega)))
          have M8 := Lib.hid (drk.bx_keep M7.out hk (by have hlM := LM.out; have h0 := P0.out; have hs0 := LTZ.out; have hs1 := SS1.out; have hs2 := SS2.out; have hs3 := SS3.out; have hs4 := SS4.out; have hs5 := SS5.out; have hs6 := SS6.out; have hs7 := LWM.out; have hs8 := SS7.out; have hs9 := SS8.out; first | omega | (simp <;> omega)))
          have R8 := Lib.hid (draw.ow_keep R7.out hk (by have hlM := LM.out; have h0 := P0.out; have hs0 := LTZ.out; have hs1 := SS1.out; have hs2 := SS2.out; have hs3 := SS3.out; have hs4 := SS4.out; have hs5 := SS5.out; have hs6 := SS6.out; have hs7 := LWM.out; have hs8 := SS7.out; have hs9 := SS8.out; first | omega | (simp <;> omega)))
          clear hk hc hx0 hx1 K7 C7 Z7 M7 R7
          obtain ⟨gn, rfl⟩ : ∃ gn : Nat, g = (gn : Int) := ⟨g.toNat, by have := Hg.out; omega⟩
          have HGN := Lib.hid (show gn < 2 by have := Hg.out; omega)
          obtain ⟨N, hN⟩ : ∃ N, 100 + gn = N := ⟨_, rfl⟩
          have HNN := Lib.hid (show N ≤ 101 by have := HGN.out; omega)
          have m1 : (100 : Int) + (gn : Int) = (N : Int) := by omega
          have m2 : IntKind.i64.wrap (N : Int) = (N : Int) := IntWalk.i64_in _ (by have := HNN.out; omega)
          obtain ⟨i0, hi0, hz0, hz1, hz2⟩ := info_parts u8Info
          have hmk := fun W => run_make1 (P := Try.prog) 22 5 i0 _ Try.underlying22 hi0 hz0 hz1 N (by rw [hz2]; omega) (by have := HNN.out; omega) W
          clear hN hz2 hz1 hz0 hi0
          have cM3 : w8.cell? ⟨b, 3, none⟩ = some (.slice A n c) := M8.out.cell 3
          have fM3 : w8.frozen? ⟨b, 3, none⟩ = false := M8.out.free 3
          have cA3 : (w8.alloc (.cells (madeCells #[.int .u8 0] N) 5)).cell? ⟨b, 3, none⟩ = some (.slice A n c) := (M8.out.below (below_box _ _)).cell 3
          have fA3 : (w8.alloc (.cells (madeCells #[.int .u8 0] N) 5)).frozen? ⟨b, 3, none⟩ = false := (M8.out.below (below_box _ _)).free 3
          go_upto_region 11 with fail
          clear cM3 fM3 cA3 fA3
          clear hmk m1 m2
          obtain ⟨bz, hbz⟩ : ∃ bz, w8.heap.size = bz := ⟨_, rfl⟩
          rw [hbz]
          have HBZ := Lib.hid hbz
          obtain ⟨w9, hW⟩ : ∃ wy, w8.alloc (.cells (madeCells #[.int .u8 0] N) 5) = wy := ⟨_, rfl⟩
          rw [hW]
          have hb : Below w8.heap.size w8 w9 := by rw [← hW]; exact below_box _ _
          have ho : Ow 5 .u8 w9 bz w9.heap.size (some ⟨bz, 0, none⟩) N N (List.replicate N 0) := by have hh := ow_made8 w8 N (by have := HNN.out; omega); rw [hW, hbz] at hh; exact hh
          have LBZ := Lib.hid (show w.heap.size ≤ bz by have h1 := K8.out.size; omega)
          have LMZ := Lib.hid (show b < bz by have h1 := M8.out.lt; omega)
          clear hW hbz
          have SS9 := Lib.hid hb.size
          have K9 := Lib.hid (drk.later K8.out K8.out.size hb)
          have C9 := Lib.hid (drk.cur_below C8.out hb)
          have Z9 := Lib.hid (Z8.out.below hb)
          have M9 := Lib.hid (M8.out.below hb)
          have R9 := Lib.hid (R8.out.below hb)
          clear hb K8 C8 Z8 M8 R8
          have V9 := Lib.hid ho
          clear ho
          have BB := Lib.hid (show Below w.heap.size w9 (w9.setCell ⟨b, 3, none⟩ (.slice (some ⟨bz, 0, none⟩) N N)) from (Below.refl _ _).setCell (p := ⟨b, 3, none⟩) (by have hlM := LM.out; have h0 := P0.out; have hs0 := LTZ.out; have hs1 := SS1.out; have hs2 := SS2.out; have hs3 := SS3.out; have hs4 := SS4.out; have hs5 := SS5.out; have hs6 := SS6.out; have hs7 := LWM.out; have hs8 := SS7.out; have hs9 := SS8.out; have hs10 := SS9.out; have hs11 := LBZ.out; have hs12 := LMZ.out; (try simp only []); omega) _)
          have hWW : (w9.setCell ⟨b, 3, none⟩ (.slice (some ⟨bz, 0, none⟩) N N)) = (w9.setCell ⟨b, 3, none⟩ (.slice (some ⟨bz, 0, none⟩) N N)) := rfl
          obtain ⟨w10, hW⟩ : ∃ wy, (w9.setCell ⟨b, 3, none⟩ (.slice (some ⟨bz, 0, none⟩) N N)) = wy := ⟨_, rfl⟩
          rw [hW]
          clear hWW
          have K10 := Lib.hid (drk.later K9.out (Nat.le_refl _) (hW ▸ BB.out))
          have C10 := Lib.hid (drk.cur_later CW.out K9.out C9.out (Nat.le_refl _) (hW ▸ BB.out))
          have Z10 := Lib.hid (show Bx 28 w10 (w.heap.size) #[.int .i64 0, .int .i64 0, .int .i64 0, .slice none 0 0] by rw [← hW]; exact (Z9.out.other (by have hlM := LM.out; have h0 := P0.out; have hs0 := LTZ.out; have hs1 := SS1.out; have hs2 := SS2.out; have hs3 := SS3.out; have hs4 := SS4.out; have hs5 := SS5.out; have hs6 := SS6.out; have hs7 := LWM.out; have hs8 := SS7.out; have hs9 := SS8.out; have hs10 := SS9.out; have hs11 := LBZ.out; have hs12 := LMZ.out; first | omega | (simp <;> omega)) _ _))
          have M10 := Lib.hid (show Bx 28 w10 (b) #[.int .i64 x, .int .i64 y, .int .i64 t, .slice (some ⟨bz, 0, none⟩) N N] by rw [← hW]; exact (M9.out.set 3 _))
          have R10 := Lib.hid (show Ow 5 .u8 w10 (w4.heap.size) (w5.heap.size) A n c zs by rw [← hW]; exact (R9.out.same (by simp [World.setCell]) fun b h1 h2 => by rw [Below.heap_setCell _ _ _ _ (by have hlM := LM.out; have h0 := P0.out; have hs0 := LTZ.out; have hs1 := SS1.out; have hs2 := SS2.out; have hs3 := SS3.out; have hs4 := SS4.out; have hs5 := SS5.out; have hs6 := SS6.out; have hs7 := LWM.out; have hs8 := SS7.out; have hs9 := SS8.out; have hs10 := SS9.out; have hs11 := LBZ.out; have hs12 := LMZ.out; first | omega | (simp <;> omega))]))
          have V10 := Lib.hid (show Ow 5 .u8 w10 (bz) (w9.heap.size) (some ⟨bz, 0, none⟩) N N (List.replicate N 0) by rw [← hW]; exact (V9.out.same (by simp [World.setCell]) fun b h1 h2 => by rw [Below.heap_setCell _ _ _ _ (by have hlM := LM.out; have h0 := P0.out; have hs0 := LTZ.out; have hs1 := SS1.out; have hs2 := SS2.out; have hs3 := SS3.out; have hs4 := SS4.out; have hs5 := SS5.out; have hs6 := SS6.out; have hs7 := LWM.out; have hs8 := SS7.out; have hs9 := SS8.out; have hs10 := SS9.out; have hs11 := LBZ.out; have hs12 := LMZ.out; first | omega | (simp <;> omega))]))
          clear hW BB K9 C9 Z9 M9 R9 V9
          go_wp2_with (first | (refine stw.list_load rfl 28 _ rfl (b) rfl 28 _ M10.out Try.underlying28 rfl szM ?_) | (refine stw.list_store rfl 28 _ _ rfl (w.heap.size) #[.int .i64 x, .int .i64 y, .int .i64 t, .slice (some ⟨bz, 0, none⟩) N N] rfl rfl 28 _ Z10.out rfl szM (oneM _ _ _ _ _ _) ?_; intro wz11 hz))
          have K11 := Lib.hid (drk.later K10.out (by have hlM := LM.out; have h0 := P0.out; have hs0 := LTZ.out; have hs1 := SS1.out; have hs2 := SS2.out; have hs3 := SS3.out; have hs4 := SS4.out; have hs5 := SS5.out; have hs6 := SS6.out; have hs7 := LWM.out; have hs8 := SS7.out; have hs9 := SS8.out; have hs10 := SS9.out; have hs11 := LBZ.out; have hs12 := LMZ.out; first | omega | (simp <;> omega)) hz.below)
          have C11 := Lib.hid (drk.cur_later CW.out K10.out C10.out (by have hlM := LM.out; have h0 := P0.out; have hs0 := LTZ.out; have hs1 := SS1.out; have hs2 := SS2.out; have hs3 := SS3.out; have hs4 := SS4.out; have hs5 := SS5.out; have hs6 := SS6.out; have hs7 := LWM.out; have hs8 := SS7.out; have hs9 := SS8.out; have hs10 := SS9.out; have hs11 := LBZ.out; have hs12 := LMZ.out; first | omega | (simp <;> omega)) hz.below)
          have Z11 := Lib.hid (hz.box)
          have M11 := Lib.hid (hz.keep M10.out (by have hlM := LM.out; have h0 := P0.out; have hs0 := LTZ.out; have hs1 := SS1.out; have hs2 := SS2.out; have hs3 := SS3.out; have hs4 := SS4.out; have hs5 := SS5.out; have hs6 := SS6.out; have hs7 := LWM.out; have hs8 := SS7.out; have hs9 := SS8.out; have hs10 := SS9.out; have hs11 := LBZ.out; have hs12 := LMZ.out; first | omega | (simp <;> omega)))
          have R11 := Lib.hid (R10.out.same hz.below.size fun b h1 h2 => hz.other b (by have hlM := LM.out; have h0 := P0.out; have hs0 := LTZ.out; have hs1 := SS1.out; have hs2 := SS2.out; have hs3 := SS3.out; have hs4 := SS4.out; have hs5 := SS5.out; have hs6 := SS6.out; have hs7 := LWM.out; have hs8 := SS7.out; have hs9 := SS8.out; have hs10 := SS9.out; have hs11 := LBZ.out; have hs12 := LMZ.out; first | omega | (simp <;> omega)))
          have V11 := Lib.hid (V10.out.same hz.below.size fun b h1 h2 => hz.other b (by have hlM := LM.out; have h0 := P0.out; have hs0 := LTZ.out; have hs1 := SS1.out; have hs2 := SS2.out; have hs3 := SS3.out; have hs4 := SS4.out; have hs5 := SS5.out; have hs6 := SS6.out; have hs7 := LWM.out; have hs8 := SS7.out; have hs9 := SS8.out; have hs10 := SS9.out; have hs11 := LBZ.out; have hs12 := LMZ.out; first | omega | (simp <;> omega)))
          clear hz K10 C10 Z10 M10 R10 V10
          (try simp only [Exit.inBlock, Exit.then])
          refine bodyPost_ret (v := .agg #[.int .i64 x, .int .i64 y, .int .i64 t, .slice (some ⟨bz, 0, none⟩) N N]) ?_ rfl ?_
          · rw [results_cell1 rfl]
            exact stw.back Z11.out Try.underlying28 rfl szM
          · exact ⟨(x, y, t, (List.replicate N 0)), (some ⟨bz, 0, none⟩), N, N, rfl, HNN.out, (V11.out).up.down (by have hlM := LM.out; have h0 := P0.out; have hs0 := LTZ.out; have hs1 := SS1.out; have hs2 := SS2.out; have hs3 := SS3.out; have hs4 := SS4.out; have hs5 := SS5.out; have hs6 := SS6.out; have hs7 := LWM.out; have hs8 := SS7.out; have hs9 := SS8.out; have hs10 := SS9.out; have hs11 := LBZ.out; have hs12 := LMZ.out; first | omega | (simp <;> omega)), K11.out, C11.out⟩
        · have e0 : (q == 0) = false := by simpa using h0
          have e1 : (q == 1) = false := by simpa using h1
          have e2 : (q == 2) = false := by simpa using h2
          have e3 : (q == 3) = false := by simpa using h3
          go_wp2_with (first | (refine stw.list_load rfl 28 _ rfl (b) rfl 28 _ M7.out Try.underlying28 rfl szM ?_) | (refine stw.list_store rfl 28 _ _ rfl (w.heap.size) #[.int .i64 x, .int .i64 y, .int .i64 t, .slice A n c] rfl rfl 28 _ Z7.out rfl szM (oneM _ _ _ _ _ _) ?_; intro wz8 hz))
          have K8 := Lib.hid (drk.later K7.out (by have hlM := LM.out; have h0 := P0.out; have hs0 := LTZ.out; have hs1 := SS1.out; have hs2 := SS2.out; have hs3 := SS3.out; have hs4 := SS4.out; have hs5 := SS5.out; have hs6 := SS6.out; have hs7 := LWM.out; have hs8 := SS7.out; first | omega | (simp <;> omega)) hz.below)
          have C8 := Lib.hid (drk.cur_later CW.out K7.out C7.out (by have hlM := LM.out; have h0 := P0.out; have hs0 := LTZ.out; have hs1 := SS1.out; have hs2 := SS2.out; have hs3 := SS3.out; have hs4 := SS4.out; have hs5 := SS5.out; have hs6 := SS6.out; have hs7 := LWM.out; have hs8 := SS7.out; first | omega | (simp <;> omega)) hz.below)
          have Z8 := Lib.hid (hz.box)
          have M8 := Lib.hid (hz.keep M7.out (by have hlM := LM.out; have h0 := P0.out; have hs0 := LTZ.out; have hs1 := SS1.out; have hs2 := SS2.out; have hs3 := SS3.out; have hs4 := SS4.out; have hs5 := SS5.out; have hs6 := SS6.out; have hs7 := LWM.out; have hs8 := SS7.out; first | omega | (simp <;> omega)))
          have R8 := Lib.hid (R7.out.same hz.below.size fun b h1 h2 => hz.other b (by have hlM := LM.out; have h0 := P0.out; have hs0 := LTZ.out; have hs1 := SS1.out; have hs2 := SS2.out; have hs3 := SS3.out; have hs4 := SS4.out; have hs5 := SS5.out; have hs6 := SS6.out; have hs7 := LWM.out; have hs8 := SS7.out; first | omega | (simp <;> omega)))
          clear hz K7 C7 Z7 M7 R7
          (try simp only [Exit.inBlock, Exit.then])
          refine bodyPost_ret (v := .agg #[.int .i64 x, .int .i64 y, .int .i64 t, .slice A n c]) ?_ rfl ?_
          · rw [results_cell1 rfl]
            exact stw.back Z8.out Try.underlying28 rfl szM
          · exact ⟨(x, y, t, zs), A, n, c, rfl, by have h1 := HN.out; omega, (R8.out).up.down (by have hlM := LM.out; have h0 := P0.out; have hs0 := LTZ.out; have hs1 := SS1.out; have hs2 := SS2.out; have hs3 := SS3.out; have hs4 := SS4.out; have hs5 := SS5.out; have hs6 := SS6.out; have hs7 := LWM.out; have hs8 := SS7.out; first | omega | (simp <;> omega)), K8.out, C8.out⟩
end Go.Proofs.Ytjmenbpalihnnaa.mq
end

section
namespace Go.Proofs.Ytjmenbpalihnnaa.mq
open Go.RowKit sl harn bx mrw drk stw draw
set_option linter.unusedVariables false
set_option linter.unusedSimpArgs false

theorem oe_keep {w w' : World} {p lo hi n c : Nat} {A : Option Addr} {es : List (El Msg)} (h : Oe msg w lo hi A n c es) (hk : Keep p w w') (hp : p < lo) : Oe msg w' lo hi A n c es :=
  h.same hk.size fun b h1 h2 => hk.block b (by have := h.hi_; omega) (by omega)
theorem rd_of_ow {w : World} {lo hi n c : Nat} {A : Option Addr} {zs : List Int} (h : Ow 5 .u8 w lo hi A n c zs) : Rd .u8 w lo hi A n c zs := h.rd
/-- A drawn message, as a value of a region. -/
def mrowK (p B : Nat) (a : Option Addr) (len cap : Nat) : reg.Stay (Dr p a len cap) :=
  ⟨fun v w => ∃ (x : Msg) (A : Option Addr) (n c lo hi : Nat), v = mV x A n c ∧ n ≤ 101 ∧ p < lo ∧ B ≤ lo ∧ Ow 5 .u8 w lo hi A n c x.2.2.2, fun v w w' ⟨x, A, n, c, lo, hi, e, h1, h2, h3, h4⟩ hb => ⟨x, A, n, c, lo, hi, e, h1, h2, h3, ow_keep h4 hb.1 h2⟩⟩
/-- A queue within bounds, as a value of a region. -/
def qrowK (p B : Nat) (a : Option Addr) (len cap : Nat) (P : List Msg → Int → Prop) : reg.Stay (Dr p a len cap) :=
  ⟨fun v w => ∃ (A : Option Addr) (n c lo hi : Nat) (es : List (El Msg)) (d : Int), v = qV A n c d ∧ P (es.map (fun e : El Msg => e.x)) d ∧ p < lo ∧ B ≤ lo ∧ Oe msg w lo hi A n c es, fun v w w' ⟨A, n, c, lo, hi, es, d, e, h1, h2, h3, h4⟩ hb => ⟨A, n, c, lo, hi, es, d, e, h1, h2, h3, oe_keep h4 hb.1 h2⟩⟩
/-- Queues that m messages were put into. -/
def Qin (m : Nat) (ms : List Msg) (d : Int) : Prop := ms.length ≤ 12 ∧ (∀ y ∈ ms, y.2.2.2.length ≤ 101) ∧ 0 ≤ d ∧ d ≤ m
theorem enq_qin {m : Nat} {ms : List Msg} {d : Int} {x : Msg} (h : Qin m ms d) (hx : x.2.2.2.length ≤ 101) (hm : m ≤ 1000) : Qin (m + 1) (enq ms d x).1 (enq ms d x).2 := by
  obtain ⟨h1, h2, h3, h4⟩ := h
  have hb : ∀ y ∈ ms ++ [x], y.2.2.2.length ≤ 101 := fun y hy => by
    rcases List.mem_append.1 hy with hy | hy
    · exact h2 y hy
    · obtain rfl : y = x := by simpa using hy
      exact hx
  unfold enq
  split
  · split
    · rename_i hl
      exact ⟨hl, hb, h3, by dsimp only; omega⟩
    · refine ⟨?_, fun y hy => hb y (List.mem_of_mem_eraseIdx hy), ?_⟩
      · have hr := bst_range le (ms ++ [x]) (ms ++ [x]).length
        have h5 : (ms ++ [x]).length = ms.length + 1 := by simp
        have h6 := hr.2.2 (by omega)
        rw [List.length_eraseIdx, if_pos (by omega)]
        omega
      · have e : IntKind.i64.wrap (d + 1) = d + 1 := IntWalk.i64_in _ (by omega)
        rw [e]
        constructor <;> omega
  · exact ⟨h1, h2, h3, by dsimp only; omega⟩
/-- Drawn queues. -/
def Qdr (ms : List Msg) (d : Int) : Prop := ms.length ≤ 13 ∧ (∀ y ∈ ms, y.2.2.2.length ≤ 101) ∧ -1 ≤ d ∧ d ≤ 14
theorem Qdr.bd {ms : List Msg} {d : Int} (h : Qdr ms d) : ∀ y ∈ ms, y.2.2.2.length ≤ 67108864 := fun y hy => by have := h.2.1 y hy; omega
def QdPost (p : Nat) (a : Option Addr) (len cap : Nat) (w : World) (e : Ending) (w' : World) : Prop :=
  ∃ (A : Option Addr) (n c : Nat) (es : List (El Msg)) (d : Int), e = .returned (qV A n c d) ∧ Qdr (es.map (fun e : El Msg => e.x)) d ∧ Oe msg w' w.heap.size w'.heap.size A n c es ∧ Keep p w w' ∧ Cur w' p a len cap
/-- An element that is drawn while a row may grow. -/
def elK (p lo hi : Nat) (a : Option Addr) (len cap : Nat) (A : Option Addr) (n c : Nat) (es : List (El Msg)) : rgp.St (Dr p a len cap) (rgp.Ap msg lo hi A n c es) :=
  ⟨fun v w => ∃ (x : Msg) (A2 : Option Addr) (n2 c2 lo2 hi2 : Nat), v = mV x A2 n2 c2 ∧ n2 ≤ 101 ∧ p < lo2 ∧ hi ≤ lo2 ∧ lo ≤ lo2 ∧ Ow 5 .u8 w lo2 hi2 A2 n2 c2 x.2.2.2, fun v w w' ⟨x, A2, n2, c2, lo2, hi2, e, h0, hp, h1, h2, h⟩ hb => by
    rcases hb with hb | hb
    · exact ⟨x, A2, n2, c2, lo2, hi2, e, h0, hp, h1, h2, ow_keep h hb.1 hp⟩
    · exact ⟨x, A2, n2, c2, lo2, hi2, e, h0, hp, h1, h2, ow_grown hb.1 hb.2.1 h⟩⟩
def oneK (p lo hi : Nat) (a : Option Addr) (len cap : Nat) (A : Option Addr) (n c : Nat) (es : List (El Msg)) : rgp.St (Dr p a len cap) (rgp.Ap msg lo hi A n c es) :=
  ⟨fun v w => ∃ (q : Nat) (x : Msg) (A2 : Option Addr) (n2 c2 lo2 hi2 : Nat), v = .slice (some ⟨q, 0, none⟩) 1 1 ∧ n2 ≤ 101 ∧ p < q ∧ hi ≤ q ∧ Bx 28 w q #[.int .i64 x.1, .int .i64 x.2.1, .int .i64 x.2.2.1, .slice A2 n2 c2] ∧ p < lo2 ∧ hi ≤ lo2 ∧ lo ≤ lo2 ∧ Ow 5 .u8 w lo2 hi2 A2 n2 c2 x.2.2.2, fun v w w' ⟨q, x, A2, n2, c2, lo2, hi2, e, h0, hpq, hq, hX, hp, h1, h2, h⟩ hb => by
    rcases hb with hb | hb
    · exact ⟨q, x, A2, n2, c2, lo2, hi2, e, h0, hpq, hq, bx_keep hX hb.1 (by omega), hp, h1, h2, ow_keep h hb.1 hp⟩
    · exact ⟨q, x, A2, n2, c2, lo2, hi2, e, h0, hpq, hq, grown_bx hX hb.2.1 (fun e => by have := hb.1.lo_ e.symm; omega), hp, h1, h2, ow_grown hb.1 hb.2.1 h⟩⟩
/-- The row behind the append of something drawn. -/
def newK (lo n : Nat) (es : List (El Msg)) (v : Value) (w : World) : Prop := ∃ A3 c3 f hi3, v = .slice A3 (n + 1) c3 ∧ f.x.2.2.2.length ≤ 101 ∧ Oe msg w lo hi3 A3 (n + 1) c3 (es ++ [f])
theorem newK_keep {p lo n : Nat} {a : Option Addr} {len cap : Nat} {es : List (El Msg)} (hp : p < lo) : ∀ v w w', newK lo n es v w → Dr p a len cap w w' → newK lo n es v w' := fun v w w' ⟨A3, c3, f, hi3, e, hf, h⟩ hb => ⟨A3, c3, f, hi3, e, hf, oe_keep h hb.1 hp⟩
set_option maxRecDepth 100000 in
set_option maxHeartbeats 4000000 in
theorem l17queue (w : World) (p : Nat) (a : Option Addr) (len cap : Nat) (hc : Cur w p a len cap) :
    Calls Try.prog 60 #[.pointer (some ⟨p, 0, none⟩)] w (QdPost p a len cap w) := by
  obtain ⟨i0, hi0, hz0, hz1, hz2⟩ := info_parts infoM
  have HZ := Lib.hid (And.intro hi0 (And.intro hz0 (And.intro hz1 hz2)))
  clear hi0 hz0 hz1 hz2
  have CW := Lib.hid hc
  have P0 := Lib.hid hc.lt
  clear hc
  go_enter Try.func60, Try.ntmps60
  go_upto_region 2 with fail
  obtain ⟨w0, hW⟩ : ∃ w0, (w.alloc (.cells #[.slice none 0 0, .int .i64 0] 26)).alloc (.cells #[.slice none 0 0, .int .i64 0] 26) = w0 := ⟨_, rfl⟩
  rw [hW]
  have K0 := Lib.hid (show Keep p w w0 by rw [← hW]; exact ((Keep.refl p w).alloc _).alloc _)
  have C0 := Lib.hid (show Cur w0 p a len cap by rw [← hW]; exact ((CW.out).alloc _).alloc _)
  have Z0 := Lib.hid (show Bx 26 w0 (w.heap.size) #[.slice none 0 0, .int .i64 0] by
      rw [← hW]
      have hh := Bx.made 26 w #[.slice none 0 0, .int .i64 0]
      exact (hh.below (below_box _ _)))
  have Q0 := Lib.hid (show Bx 26 w0 (w.heap.size + 1) #[.slice none 0 0, .int .i64 0] by
      rw [← hW]
      have hh : Bx 26 ((w.alloc (.cells #[.slice none 0 0, .int .i64 0] 26)).alloc (.cells #[.slice none 0 0, .int .i64 0] 26)) (w.heap.size + 1) #[.slice none 0 0, .int .i64 0] := by have hh := Bx.made 26 (w.alloc (.cells #[.slice none 0 0, .int .i64 0] 26)) #[.slice none 0 0, .int .i64 0]; simpa using hh
      exact hh)
  clear hW
  have LTZ := Lib.hid Z0.out.lt
  have LTQ := Lib.hid Q0.out.lt
  go_wp2_with fail
  (with_reducible refine (draw.pickIn 0 14 5 (by omega) (by omega) _ p a len cap C0.out #[.int .i64 0, .int .i64 2, .int .i64 5, .int .i64 12, .int .i64 14] rfl (by decide)).mono ?_)
  rintro e w1 ⟨j0, rfl, hx0, hx1, hk, hc⟩
  have Hj0 := Lib.hid (show 0 ≤ j0 ∧ j0 ≤ 14 from ⟨hx0, hx1⟩)
  have SS1 := Lib.hid hk.size
  have K1 := Lib.hid (K0.out.trans hk)
  have C1 := Lib.hid (hc)
  have Z1 := Lib.hid (drk.bx_keep Z0.out hk (by have h0 := P0.out; have hs0 := LTZ.out; have hs1 := LTQ.out; have hs2 := SS1.out; first | omega | (simp <;> omega)))
  have Q1 := Lib.hid (drk.bx_keep Q0.out hk (by have h0 := P0.out; have hs0 := LTZ.out; have hs1 := LTQ.out; have hs2 := SS1.out; first | omega | (simp <;> omega)))
  clear hk hc hx0 hx1 K0 C0 Z0 Q0
  have HLO := Lib.hid (show w.heap.size + 1 + 1 ≤ w1.heap.size by have h := Q1.out.lt; omega)
  have O1 := Lib.hid (Oe.nil_ msg w1 (w.heap.size + 1 + 1) w1.heap.size (Nat.le_refl _))
  go_wp2_with fail
  go_loopw [4] (fun v0 wr => ∃ (j : Int) (m : Nat) (A1 : Option Addr) (n : Nat) (c1 : Nat) (es : List (El Msg)) (d : Int), v0 = .int .i64 j ∧ (0 ≤ j ∧ j ≤ 14 ∧ (m : Int) + j ≤ 14) ∧ (Qin m (es.map (·.x)) d) ∧ Keep p w wr ∧ Cur wr p a len cap ∧ Bx 26 wr w.heap.size #[.slice none 0 0, .int .i64 0] ∧ Bx 26 wr (w.heap.size + 1) #[.slice A1 n c1, .int .i64 d] ∧ Oe msg wr (w.heap.size + 1 + 1) wr.heap.size A1 n c1 es) (fun i _ => (intOf i).toNat)
  case atStart => exact ⟨j0, 0, none, 0, 0, [], 0, rfl, by have h := Hj0.out; omega, ⟨by simp, by simp, by omega, by omega⟩, K1.out, C1.out, Z1.out, Q1.out, O1.out⟩
  case round =>
    obtain ⟨j, m, A1, n, c1, es, d, rfl, ghj, ghqn, gK2, gC2, gZ2, gQ2, gO2⟩ := hrel
    have K2 := Lib.hid gK2
    have C2 := Lib.hid gC2
    have Z2 := Lib.hid gZ2
    have Q2 := Lib.hid gQ2
    have O2 := Lib.hid gO2
    have hj := Lib.hid ghj
    have hqn := Lib.hid ghqn
    clear gK2 gC2 gZ2 gQ2 gO2 ghj ghqn
    have LUZ2 := Lib.hid Z2.out.lt
    have LUQ2 := Lib.hid Q2.out.lt
    have hj2 := hj.out
    by_cases hlt : 0 < j
    · have hm14 : m ≤ 14 := by omega
      have HN := Lib.hid (show n ≤ 67108864 by have h1 := hqn.out.1; have h2 := O2.out.len; simp at h1; omega)
      have HBD := Lib.hid (show ∀ y ∈ es.map (·.x), y.2.2.2.length ≤ 67108864 from fun y hy => by have := hqn.out.2.1 y hy; omega)
      go_upto_region 5 with fail
      refine reg.region_tail (drk.Dr p a len cap) 4 32 [some [], some [], some [(1, 14)], some [(0, 13), (2, 15)], none] [(0, 13), (1, 14), (2, 15), (3, 16)]
        (fun w' => Keep p w w' ∧ Cur w' p a len cap ∧ Bx 26 w' (w.heap.size) #[.slice none 0 0, .int .i64 0] ∧ Bx 26 w' (w.heap.size + 1) #[.slice A1 n c1, .int .i64 d] ∧ Oe msg w' (w.heap.size + 1 + 1) wr.heap.size A1 n c1 es ∧ True)
        (reg.rl [reg.is (.agg #[.slice A1 n c1, .int .i64 d]), reg.is (.pointer (some ⟨p, 0, none⟩)), mrowK p (w.heap.size + 1 + 1) a len cap, qrowK p (w.heap.size + 1 + 1) a len cap (Qin (m + 1)), reg.free])
        (by kernel_rfl) rfl (by kernel_rfl) (by kernel_rfl) rfl
        (fun w1 w2 hc hb => ⟨hc.1.trans hb.1, hb.2, drk.bx_keep hc.2.2.1 hb.1 (by have h0 := P0.out; have hs0 := LTZ.out; have hs1 := LTQ.out; have hs2 := SS1.out; have hs3 := LUZ2.out; have hs4 := LUQ2.out; first | omega | (simp <;> omega)), drk.bx_keep hc.2.2.2.1 hb.1 (by have h0 := P0.out; have hs0 := LTZ.out; have hs1 := LTQ.out; have hs2 := SS1.out; have hs3 := LUZ2.out; have hs4 := LUQ2.out; first | omega | (simp <;> omega)), oe_keep hc.2.2.2.2.1 hb.1 (by have h0 := P0.out; have hs0 := LTZ.out; have hs1 := LTQ.out; have hs2 := SS1.out; have hs3 := LUZ2.out; have hs4 := LUQ2.out; first | omega | (simp <;> omega)), trivial⟩) (reg.rl_keep _) (⟨Keep.drew K2.out, show Cur wr.drew p a len cap from C2.out, Z2.out.same rfl, Q2.out.same rfl, O2.out.same (Nat.le_refl _) (fun _ _ _ => rfl), trivial⟩) (by kernel_rfl) ⟨?_, ?_, ?_, ?_, trivial⟩ ?_
      · refine fun w8 hc  K hK => ?_
        (try simp only [Act.put, List.setIfInBounds_toArray, List.set_cons_zero, List.set_cons_succ])
        rw [if_pos (by rfl)]
        refine stw.wp_load_bx 26 _ rfl (w.heap.size + 1) rfl 26 _ hc.2.2.2.1 Try.underlying26 rfl szQ ?_
        exact hK _ _ rfl ⟨Keep.refl _ _, hc.2.1⟩
      · refine fun w8 hc  K hK => ?_
        (try simp only [Act.put, List.setIfInBounds_toArray, List.set_cons_zero, List.set_cons_succ])
        go_simp
        exact hK (.pointer (some ⟨p, 0, none⟩)) _ rfl ⟨Keep.refl _ _, hc.2.1⟩
      · refine fun w8 hc v1 h1 K hK => ?_
        obtain rfl : v1 = .pointer (some ⟨p, 0, none⟩) := h1
        (try simp only [Act.put, List.setIfInBounds_toArray, List.set_cons_zero, List.set_cons_succ])
        go_simp
        have hpl := hc.2.1.lt
        have hql := hc.2.2.2.1.lt
        (with_reducible refine (l17any _ p a len cap hc.2.1).mono ?_)
        rintro e w3 ⟨x, A, n3, c3, rfl, hn, ho, hk, hcc⟩
        exact hK _ _ ⟨x, A, n3, c3, _, _, rfl, hn, hpl, (by omega), ho⟩ ⟨hk, hcc⟩
      · refine fun w8 hc v0 h0 v2 h2 K hK => ?_
        obtain rfl : v0 = .agg #[.slice A1 n c1, .int .i64 d] := h0
        obtain ⟨x2, A2, n2, c2, lo2, hi2, rfl, hn2, hp2, hB2, hO2⟩ := h2
        (try simp only [Act.put, List.setIfInBounds_toArray, List.set_cons_zero, List.set_cons_succ])
        go_simp
        have hpl := hc.2.1.lt
        have hql := hc.2.2.2.1.lt
        have hxl : x2.2.2.2.length ≤ 101 := by have := hO2.len; omega
        have hqx := enq_qin hqn.out hxl (by omega)
        (with_reducible refine (specEn x2 A2 n2 c2 lo2 hi2 (es.map (·.x)) d A1 n c1 _ _ HN.out HBD.out _ hc.2.2.2.2.1.rq hO2.rd (by omega)).mono ?_)
        rintro e w3 hp
        obtain ⟨A5, n5, c5, es5, rfl, g5, ho, hb⟩ := q_parts hp
        exact hK _ _ ⟨A5, n5, c5, _, _, es5, _, rfl, (by rw [g5]; exact hqx), hpl, (by omega), ho⟩ ⟨drk.later (Keep.refl _ w8) (Nat.le_refl _) hb, drk.cur_below hc.2.1 hb⟩
      refine fun wg3 hc v0 h0 v1 h1 v2 h2 v3 h3 => ?_
      obtain rfl : v0 = .agg #[.slice A1 n c1, .int .i64 d] := h0
      obtain rfl : v1 = .pointer (some ⟨p, 0, none⟩) := h1
      obtain ⟨x2, A2, n2, c2, lo2, hi2, rfl, hn2, hp2, hB2, hO2⟩ := h2
      obtain ⟨A4, n4, c4, lo4, hi4, es4, d4, rfl, hE4, hp4, hB4, hO4⟩ := h3
      (try simp only [reg.Obs])
      (try simp only [Act.put, List.setIfInBounds_toArray, List.set_cons_zero, List.set_cons_succ])
      simp only [List.drop_succ_cons, List.drop_zero]
      have K3 := Lib.hid hc.1
      have C3 := Lib.hid hc.2.1
      have Z3 := Lib.hid hc.2.2.1
      have Q3 := Lib.hid hc.2.2.2.1
      have O3 := Lib.hid hc.2.2.2.2.1
      clear hc K2 C2 Z2 Q2 O2
      clear O3
      have O3 := Lib.hid hO4
      have HE4 := Lib.hid hE4
      have HP4 := Lib.hid hp4
      have HB4 := Lib.hid hB4
      clear hE4 hp4 hB4 hO4 hO2 hn2 hp2 hB2
      refine stw.list_store rfl 26 _ _ rfl (w.heap.size + 1) #[.slice A4 n4 c4, .int .i64 d4] rfl rfl 26 _ Q3.out rfl szQ (oneQ _ _ _ _) ?_
      intro wz4 hz
      (try simp only [Act.put])
      have K4 := Lib.hid (drk.later K3.out (by have h0 := P0.out; have hs0 := LTZ.out; have hs1 := LTQ.out; have hs2 := SS1.out; have hs3 := LUZ2.out; have hs4 := LUQ2.out; have hs5 := HP4.out; have hs6 := HB4.out; first | omega | (simp <;> omega)) hz.below)
      have C4 := Lib.hid (drk.cur_later CW.out K3.out C3.out (by have h0 := P0.out; have hs0 := LTZ.out; have hs1 := LTQ.out; have hs2 := SS1.out; have hs3 := LUZ2.out; have hs4 := LUQ2.out; have hs5 := HP4.out; have hs6 := HB4.out; first | omega | (simp <;> omega)) hz.below)
      have Z4 := Lib.hid (hz.keep Z3.out (by have h0 := P0.out; have hs0 := LTZ.out; have hs1 := LTQ.out; have hs2 := SS1.out; have hs3 := LUZ2.out; have hs4 := LUQ2.out; have hs5 := HP4.out; have hs6 := HB4.out; first | omega | (simp <;> omega)))
      have Q4 := Lib.hid (hz.box)
      have O4 := Lib.hid (rgp.oe_set O3.out Q3.out (by decide) (by decide) hz.below.size (fun k hk => hz.other k hk))
      clear hz K3 C3 Z3 Q3 O3
      have m1 : IntKind.i64.wrap (j - 1) = j - 1 := IntWalk.i64_in _ (by omega)
      go_wp2_with fail
      go_roundw
      case rel => exact ⟨j - 1, m + 1, A4, n4, c4, es4, d4, rfl, by omega, HE4.out, K4.out, C4.out, Z4.out, Q4.out, O4.out.up.down HB4.out⟩
      case measure => simp [intOf]; omega
    · go_wp2_with fail
      (with_reducible refine (draw.below 12 (by omega) _ p a len cap C2.out).mono ?_)
      rintro e w3 ⟨q, rfl, hx0, hx1, hk, hc⟩
      have Hq := Lib.hid (show 0 ≤ q ∧ q < 12 from ⟨hx0, hx1 (by omega)⟩)
      have SS3 := Lib.hid hk.size
      have K3 := Lib.hid (K2.out.trans hk)
      have C3 := Lib.hid (hc)
      have Z3 := Lib.hid (drk.bx_keep Z2.out hk (by have h0 := P0.out; have hs0 := LTZ.out; have hs1 := LTQ.out; have hs2 := SS1.out; have hs3 := LUZ2.out; have hs4 := LUQ2.out; have hs5 := SS3.out; first | omega | (simp <;> omega)))
      have Q3 := Lib.hid (drk.bx_keep Q2.out hk (by have h0 := P0.out; have hs0 := LTZ.out; have hs1 := LTQ.out; have hs2 := SS1.out; have hs3 := LUZ2.out; have hs4 := LUQ2.out; have hs5 := SS3.out; first | omega | (simp <;> omega)))
      have O3 := Lib.hid (oe_keep O2.out hk (by have h0 := P0.out; have hs0 := LTZ.out; have hs1 := LTQ.out; have hs2 := SS1.out; have hs3 := LUZ2.out; have hs4 := LUQ2.out; have hs5 := SS3.out; first | omega | (simp <;> omega)))
      clear hk hc hx0 hx1 K2 C2 Z2 Q2 O2
      have hm14 : m ≤ 14 := by omega
      by_cases h0 : q = 0
      · subst h0
        have cQ1 : w3.cell? ⟨w.heap.size + 1, 1, none⟩ = some (.int .i64 d) := Q3.out.cell 1
        have fQ1 : w3.frozen? ⟨w.heap.size + 1, 1, none⟩ = false := Q3.out.free 1
        go_upto_region 11 with fail
        clear cQ1 fQ1
        have BB := Lib.hid (show Below w.heap.size w3 (w3.setCell ⟨w.heap.size + 1, 1, none⟩ (.int .i64 (-1))) from (Below.refl _ _).setCell (p := ⟨w.heap.size + 1, 1, none⟩) (by have h0 := P0.out; have hs0 := LTZ.out; have hs1 := LTQ.out; have hs2 := SS1.out; have hs3 := LUZ2.out; have hs4 := LUQ2.out; have hs5 := SS3.out; (try simp only []); omega) _)
        have hWW : (w3.setCell ⟨w.heap.size + 1, 1, none⟩ (.int .i64 (-1))) = (w3.setCell ⟨w.heap.size + 1, 1, none⟩ (.int .i64 (-1))) := rfl
        obtain ⟨w4, hW⟩ : ∃ wy, (w3.setCell ⟨w.heap.size + 1, 1, none⟩ (.int .i64 (-1))) = wy := ⟨_, rfl⟩
        rw [hW]
        clear hWW
        have K4 := Lib.hid (drk.later K3.out (Nat.le_refl _) (hW ▸ BB.out))
        have C4 := Lib.hid (drk.cur_later CW.out K3.out C3.out (Nat.le_refl _) (hW ▸ BB.out))
        have Z4 := Lib.hid (show Bx 26 w4 (w.heap.size) #[.slice none 0 0, .int .i64 0] by rw [← hW]; exact (Z3.out.other (by have h0 := P0.out; have hs0 := LTZ.out; have hs1 := LTQ.out; have hs2 := SS1.out; have hs3 := LUZ2.out; have hs4 := LUQ2.out; have hs5 := SS3.out; first | omega | (simp <;> omega)) _ _))
        have Q4 := Lib.hid (show Bx 26 w4 (w.heap.size + 1) #[.slice A1 n c1, .int .i64 (-1)] by rw [← hW]; exact (Q3.out.set 1 _))
        have O4 := Lib.hid (show Oe msg w4 (w.heap.size + 1 + 1) wr.heap.size A1 n c1 es by rw [← hW]; exact (rgp.oe_setCell O3.out Q3.out (by decide) (by decide) 1 _))
        clear hW BB K3 C3 Z3 Q3 O3
        go_wp2_with (first | (refine stw.list_load rfl 26 _ rfl (w.heap.size + 1) rfl 26 _ Q4.out Try.underlying26 rfl szQ ?_) | (refine stw.list_store rfl 26 _ _ rfl (w.heap.size) #[.slice A1 n c1, .int .i64 (-1)] rfl rfl 26 _ Z4.out rfl szQ (oneQ _ _ _ _) ?_; intro wz5 hz))
        have K5 := Lib.hid (drk.later K4.out (by have h0 := P0.out; have hs0 := LTZ.out; have hs1 := LTQ.out; have hs2 := SS1.out; have hs3 := LUZ2.out; have hs4 := LUQ2.out; have hs5 := SS3.out; first | omega | (simp <;> omega)) hz.below)
        have C5 := Lib.hid (drk.cur_later CW.out K4.out C4.out (by have h0 := P0.out; have hs0 := LTZ.out; have hs1 := LTQ.out; have hs2 := SS1.out; have hs3 := LUZ2.out; have hs4 := LUQ2.out; have hs5 := SS3.out; first | omega | (simp <;> omega)) hz.below)
        have Z5 := Lib.hid (hz.box)
        have Q5 := Lib.hid (hz.keep Q4.out (by have h0 := P0.out; have hs0 := LTZ.out; have hs1 := LTQ.out; have hs2 := SS1.out; have hs3 := LUZ2.out; have hs4 := LUQ2.out; have hs5 := SS3.out; first | omega | (simp <;> omega)))
        have O5 := Lib.hid (rgp.oe_set O4.out Z4.out (by decide) (by decide) hz.below.size (fun k hk => hz.other k hk))
        clear hz K4 C4 Z4 Q4 O4
        (try simp only [Exit.inBlock, Exit.then])
        refine bodyPost_ret (v := .agg #[.slice A1 n c1, .int .i64 (-1)]) ?_ rfl ?_
        · rw [results_cell1 rfl]
          exact stw.back Z5.out Try.underlying26 rfl szQ
        · exact ⟨_, _, _, _, _, rfl, ⟨by have := hqn.out.1; omega, hqn.out.2.1, by omega, by omega⟩, (O5.out).up.down (by have h0 := P0.out; have hs0 := LTZ.out; have hs1 := LTQ.out; have hs2 := SS1.out; have hs3 := LUZ2.out; have hs4 := LUQ2.out; have hs5 := SS3.out; first | omega | (simp <;> omega)), K5.out, C5.out⟩
      · by_cases h1 : q = 1
        · subst h1
          go_upto_region 10 with fail
          refine rgp.region_tailE (rgp.EA 5 (Dr p a len cap) (rgp.Ap msg (w.heap.size + 1 + 1) wr.heap.size A1 n c1 es)) 7 32 [some [], some [(0, 24)], some [], some [(2, 26)], some [(3, 27)], some [(1, 25), (4, 28)], some [], none] [(0, 24), (1, 25), (2, 26), (3, 27), (4, 28), (5, 29), (6, 30)]
            (fun w' => Keep p w w' ∧ Cur w' p a len cap ∧ Bx 26 w' (w.heap.size) #[.slice none 0 0, .int .i64 0] ∧ Bx 26 w' (w.heap.size + 1) #[.slice A1 n c1, .int .i64 d] ∧ Oe msg w' (w.heap.size + 1 + 1) wr.heap.size A1 n c1 es ∧ True)
            (rgp.RA 5 [rgp.is (.pointer (some ⟨w.heap.size + 1, 0, none⟩)), rgp.is (.slice A1 n c1), rgp.is (.pointer (some ⟨p, 0, none⟩)), elK p (w.heap.size + 1 + 1) wr.heap.size a len cap A1 n c1 es, oneK p (w.heap.size + 1 + 1) wr.heap.size a len cap A1 n c1 es, rgp.val fun _ => True, rgp.is (.pointer (some ⟨w.heap.size + 1, 0, none⟩))] (newK (w.heap.size + 1 + 1) n es))
            (by kernel_rfl) rfl (by kernel_rfl) (by kernel_rfl) rfl
            (fun i w1 w2 hc he => rgp.ea_cases he (fun hb => ⟨hc.1.trans hb.1, hb.2, bx_keep hc.2.2.1 hb.1 (by have h0 := P0.out; have hs0 := LTZ.out; have hs1 := LTQ.out; have hs2 := SS1.out; have hs3 := LUZ2.out; have hs4 := LUQ2.out; have hs5 := SS3.out; first | omega | (simp <;> omega)), bx_keep hc.2.2.2.1 hb.1 (by have h0 := P0.out; have hs0 := LTZ.out; have hs1 := LTQ.out; have hs2 := SS1.out; have hs3 := LUZ2.out; have hs4 := LUQ2.out; have hs5 := SS3.out; first | omega | (simp <;> omega)), oe_keep hc.2.2.2.2.1 hb.1 (by have h0 := P0.out; have hs0 := LTZ.out; have hs1 := LTQ.out; have hs2 := SS1.out; have hs3 := LUZ2.out; have hs4 := LUQ2.out; have hs5 := SS3.out; first | omega | (simp <;> omega)), trivial⟩) (fun h2 => by have hb2 : Below w.heap.size w1 w2 := below_grown (Below.refl _ _) h2.2.1 (fun q hq => by have := (h2.1.lo_ hq).1; omega) (by have := h2.1.hi_; have := hc.1.size; omega); exact ⟨later hc.1 (Nat.le_refl _) hb2, cur_later CW.out hc.1 hc.2.1 (Nat.le_refl _) hb2, grown_bx hc.2.2.1 h2.2.1 (rgp.ne_type hc.2.2.1 h2.1 (by decide)), grown_bx hc.2.2.2.1 h2.2.1 (rgp.ne_type hc.2.2.2.1 h2.1 (by decide)), h2.2.2, trivial⟩))
            (rgp.ra_keep (newK_keep (by have h0 := P0.out; have hs0 := LTZ.out; have hs1 := LTQ.out; have hs2 := SS1.out; have hs3 := LUZ2.out; have hs4 := LUQ2.out; have hs5 := SS3.out; omega))) (⟨Keep.drew K3.out, show Cur w3.drew p a len cap from C3.out, Z3.out.same rfl, Q3.out.same rfl, O3.out.same (Nat.le_refl _) (fun _ _ _ => rfl), trivial⟩) (by kernel_rfl) ⟨?_, ?_, ?_, ?_, ?_, ?_, ?_, trivial⟩ ?_
          · refine fun w8 hc  K hK => ?_
            (try simp only [Act.put, List.setIfInBounds_toArray, List.set_cons_zero, List.set_cons_succ])
            go_simp
            exact hK (.pointer (some ⟨w.heap.size + 1, 0, none⟩)) _ (rgp.ra1 rfl rfl) (rgp.ea1 rfl ⟨Keep.refl _ _, hc.2.1⟩)
          · refine fun w8 hc v0 h0 K hK => ?_
            have h0 := rgp.ra1_out rfl h0
            obtain rfl : v0 = .pointer (some ⟨w.heap.size + 1, 0, none⟩) := h0
            (try simp only [Act.put, List.setIfInBounds_toArray, List.set_cons_zero, List.set_cons_succ])
            rw [if_pos (by rfl)]
            have c0 : w8.cell? ⟨w.heap.size + 1, 0, none⟩ = some (.slice A1 n c1) := hc.2.2.2.1.cell 0
            go_simp
            exact hK (.slice A1 n c1) _ (rgp.ra1 rfl rfl) (rgp.ea1 rfl ⟨Keep.refl _ _, hc.2.1⟩)
          · refine fun w8 hc  K hK => ?_
            (try simp only [Act.put, List.setIfInBounds_toArray, List.set_cons_zero, List.set_cons_succ])
            go_simp
            exact hK (.pointer (some ⟨p, 0, none⟩)) _ (rgp.ra1 rfl rfl) (rgp.ea1 rfl ⟨Keep.refl _ _, hc.2.1⟩)
          · refine fun w8 hc v2 h2 K hK => ?_
            have h2 := rgp.ra1_out rfl h2
            obtain rfl : v2 = .pointer (some ⟨p, 0, none⟩) := h2
            (try simp only [Act.put, List.setIfInBounds_toArray, List.set_cons_zero, List.set_cons_succ])
            go_simp
            have hpl := hc.2.1.lt
            have hol := hc.2.2.2.2.1.hi_
            have hql := hc.2.2.2.1.lt
            (with_reducible refine (l17any _ p a len cap hc.2.1).mono ?_)
            rintro e w3 ⟨x, A, n3, c3, rfl, hn, ho, hk, hcc⟩
            exact hK _ _ (rgp.ra1 rfl ⟨x, A, n3, c3, _, _, rfl, hn, hpl, hol, (by omega), ho⟩) (rgp.ea1 rfl ⟨hk, hcc⟩)
          · refine fun w8 hc v3 h3 K hK => ?_
            have h3 := rgp.ra1_out rfl h3
            obtain ⟨x2, A2, n2, c2, lo2, hi2, rfl, hn2, hp2, hq1, hq2, hO2⟩ := h3
            (try simp only [Act.put, List.setIfInBounds_toArray, List.set_cons_zero, List.set_cons_succ])
            rw [if_pos (by rfl)]
            have hpl := hc.2.1.lt
            have hol := hc.2.2.2.2.1.hi_
            go_simp
            exact hK (.slice (some ⟨w8.heap.size, 0, none⟩) 1 1) _ (rgp.ra1 rfl ⟨w8.heap.size, x2, A2, n2, c2, lo2, hi2, rfl, hn2, hpl, hol, Bx.made _ _ _, hp2, hq1, hq2, hO2.below (below_box _ _)⟩) (rgp.ea1 rfl (dr_below hc.2.1 (below_box _ _)))
          · refine fun w8 hc v1 h1 v4 h4 K hK => ?_
            have h1 := rgp.ra1_out rfl h1
            obtain rfl : v1 = .slice A1 n c1 := h1
            have h4 := rgp.ra1_out rfl h4
            obtain ⟨q1, x1, A1_, n1_, c1_, lo1_, hi1_, rfl, hn1, hpq, hqq, hX1, hp1, hq3, hq4, hO1⟩ := h4
            (try simp only [Act.put, List.setIfInBounds_toArray, List.set_cons_zero, List.set_cons_succ])
            rw [if_pos (by rfl)]
            have hql := hc.2.2.2.1.lt
            refine rgp.wp_push _ _ 24 rfl Try.underlying24 HZ.out.1 HZ.out.2.1 HZ.out.2.2.1 (by rw [HZ.out.2.2.2]; omega) rfl rfl rfl hc.2.2.2.2.1 x1 hX1 hO1 hq3 hq4 (by have h1 := hqn.out.1; have h2 := hc.2.2.2.2.1.len; simp at h1; omega) (by omega) ?_
            intro A4 c4 w4 hn4 hp4
            have hx1 : x1.2.2.2.length ≤ 101 := by have := hO1.len; omega
            exact hK _ _ (rgp.ra2 (by obtain ⟨B3, d3, f, hi3, e1, e2, h3⟩ := hn4; exact ⟨B3, d3, f, hi3, e1, (by rw [e2]; exact hx1), h3⟩)) (rgp.ea2 hp4)
          · refine fun w8 hc  K hK => ?_
            (try simp only [Act.put, List.setIfInBounds_toArray, List.set_cons_zero, List.set_cons_succ])
            go_simp
            exact hK (.pointer (some ⟨w.heap.size + 1, 0, none⟩)) _ (rgp.ra1 rfl rfl) (rgp.ea1 rfl ⟨Keep.refl _ _, hc.2.1⟩)
          refine fun w9 hc v0 h0 v1 h1 v2 h2 v3 h3 v4 h4 v5 h5 v6 h6 => ?_
          have h0 := rgp.ra1_out rfl h0
          obtain rfl : v0 = .pointer (some ⟨w.heap.size + 1, 0, none⟩) := h0
          have h1 := rgp.ra1_out rfl h1
          obtain rfl : v1 = .slice A1 n c1 := h1
          have h2 := rgp.ra1_out rfl h2
          obtain rfl : v2 = .pointer (some ⟨p, 0, none⟩) := h2
          have h3 := rgp.ra1_out rfl h3
          obtain ⟨x2, A2, n2, c2, lo2, hi2, rfl, hn2, hp2, hq1, hq2, hO2⟩ := h3
          have h4 := rgp.ra1_out rfl h4
          obtain ⟨q1, x1, A1_, n1_, c1_, lo1_, hi1_, rfl, hn1, hpq, hqq, hX1, hp1, hq3, hq4, hO1⟩ := h4
          have h5 := rgp.ra2_out h5
          obtain ⟨A3, c3, f3, hi3, rfl, hfx, hO3⟩ := h5
          have h6 := rgp.ra1_out rfl h6
          obtain rfl : v6 = .pointer (some ⟨w.heap.size + 1, 0, none⟩) := h6
          (try simp only [reg.Obs])
          (try simp only [Act.put, List.setIfInBounds_toArray, List.set_cons_zero, List.set_cons_succ])
          simp only [List.drop_succ_cons, List.drop_zero]
          have K4 := Lib.hid hc.1
          have C4 := Lib.hid hc.2.1
          have Z4 := Lib.hid hc.2.2.1
          have Q4 := Lib.hid hc.2.2.2.1
          have O4 := Lib.hid hO3.up
          have HFX := Lib.hid hfx
          clear hO3 hO2 hO1 hX1 hfx hc K3 C3 Z3 Q3 O3
          have cQ0 : w9.cell? ⟨w.heap.size + 1, 0, none⟩ = some (.slice A1 n c1) := Q4.out.cell 0
          have fQ0 : w9.frozen? ⟨w.heap.size + 1, 0, none⟩ = false := Q4.out.free 0
          go_upto_region 11 with fail
          clear cQ0 fQ0
          have BB := Lib.hid (show Below w.heap.size w9 (w9.setCell ⟨w.heap.size + 1, 0, none⟩ (.slice A3 (n + 1) c3)) from (Below.refl _ _).setCell (p := ⟨w.heap.size + 1, 0, none⟩) (by have h0 := P0.out; have hs0 := LTZ.out; have hs1 := LTQ.out; have hs2 := SS1.out; have hs3 := LUZ2.out; have hs4 := LUQ2.out; have hs5 := SS3.out; (try simp only []); omega) _)
          have hWW : (w9.setCell ⟨w.heap.size + 1, 0, none⟩ (.slice A3 (n + 1) c3)) = (w9.setCell ⟨w.heap.size + 1, 0, none⟩ (.slice A3 (n + 1) c3)) := rfl
          obtain ⟨w5, hW⟩ : ∃ wy, (w9.setCell ⟨w.heap.size + 1, 0, none⟩ (.slice A3 (n + 1) c3)) = wy := ⟨_, rfl⟩
          rw [hW]
          clear hWW
          have K5 := Lib.hid (drk.later K4.out (Nat.le_refl _) (hW ▸ BB.out))
          have C5 := Lib.hid (drk.cur_later CW.out K4.out C4.out (Nat.le_refl _) (hW ▸ BB.out))
          have Z5 := Lib.hid (show Bx 26 w5 (w.heap.size) #[.slice none 0 0, .int .i64 0] by rw [← hW]; exact (Z4.out.other (by have h0 := P0.out; have hs0 := LTZ.out; have hs1 := LTQ.out; have hs2 := SS1.out; have hs3 := LUZ2.out; have hs4 := LUQ2.out; have hs5 := SS3.out; first | omega | (simp <;> omega)) _ _))
          have Q5 := Lib.hid (show Bx 26 w5 (w.heap.size + 1) #[.slice A3 (n + 1) c3, .int .i64 d] by rw [← hW]; exact (Q4.out.set 0 _))
          have O5 := Lib.hid (show Oe msg w5 (w.heap.size + 1 + 1) w9.heap.size A3 (n + 1) c3 (es ++ [f3]) by rw [← hW]; exact (rgp.oe_setCell O4.out Q4.out (by decide) (by decide) 0 _))
          clear hW BB K4 C4 Z4 Q4 O4
          have HQD := Lib.hid (show Qdr ((es ++ [f3]).map (·.x)) d from ⟨by have h1 := hqn.out.1; simp at h1 ⊢; omega, fun y hy => by rw [List.map_append] at hy; rcases List.mem_append.1 hy with hy | hy; exact hqn.out.2.1 y hy; (obtain rfl : y = f3.x := by simpa using hy); exact HFX.out, by have := hqn.out.2.2.1; omega, by have := hqn.out.2.2.2; omega⟩)
          go_wp2_with (first | (refine stw.list_load rfl 26 _ rfl (w.heap.size + 1) rfl 26 _ Q5.out Try.underlying26 rfl szQ ?_) | (refine stw.list_store rfl 26 _ _ rfl (w.heap.size) #[.slice A3 (n + 1) c3, .int .i64 d] rfl rfl 26 _ Z5.out rfl szQ (oneQ _ _ _ _) ?_; intro wz6 hz))
          have K6 := Lib.hid (drk.later K5.out (by have h0 := P0.out; have hs0 := LTZ.out; have hs1 := LTQ.out; have hs2 := SS1.out; have hs3 := LUZ2.out; have hs4 := LUQ2.out; have hs5 := SS3.out; first | omega | (simp <;> omega)) hz.below)
          have C6 := Lib.hid (drk.cur_later CW.out K5.out C5.out (by have h0 := P0.out; have hs0 := LTZ.out; have hs1 := LTQ.out; have hs2 := SS1.out; have hs3 := LUZ2.out; have hs4 := LUQ2.out; have hs5 := SS3.out; first | omega | (simp <;> omega)) hz.below)
          have Z6 := Lib.hid (hz.box)
          have Q6 := Lib.hid (hz.keep Q5.out (by have h0 := P0.out; have hs0 := LTZ.out; have hs1 := LTQ.out; have hs2 := SS1.out; have hs3 := LUZ2.out; have hs4 := LUQ2.out; have hs5 := SS3.out; first | omega | (simp <;> omega)))
          have O6 := Lib.hid (rgp.oe_set O5.out Z5.out (by decide) (by decide) hz.below.size (fun k hk => hz.other k hk))
          clear hz K5 C5 Z5 Q5 O5
          (try simp only [Exit.inBlock, Exit.then])
          refine bodyPost_ret (v := .agg #[.slice A3 (n + 1) c3, .int .i64 d]) ?_ rfl ?_
          · rw [results_cell1 rfl]
            exact stw.back Z6.out Try.underlying26 rfl szQ
          · exact ⟨_, _, _, _, _, rfl, HQD.out, (O6.out).up.down (by have h0 := P0.out; have hs0 := LTZ.out; have hs1 := LTQ.out; have hs2 := SS1.out; have hs3 := LUZ2.out; have hs4 := LUQ2.out; have hs5 := SS3.out; first | omega | (simp <;> omega)), K6.out, C6.out⟩
        · have e0 : (q == 0) = false := by simpa using h0
          have e1 : (q == 1) = false := by simpa using h1
          go_wp2_with (first | (refine stw.list_load rfl 26 _ rfl (w.heap.size + 1) rfl 26 _ Q3.out Try.underlying26 rfl szQ ?_) | (refine stw.list_store rfl 26 _ _ rfl (w.heap.size) #[.slice A1 n c1, .int .i64 d] rfl rfl 26 _ Z3.out rfl szQ (oneQ _ _ _ _) ?_; intro wz4 hz))
          have K4 := Lib.hid (drk.later K3.out (by have h0 := P0.out; have hs0 := LTZ.out; have hs1 := LTQ.out; have hs2 := SS1.out; have hs3 := LUZ2.out; have hs4 := LUQ2.out; have hs5 := SS3.out; first | omega | (simp <;> omega)) hz.below)
          have C4 := Lib.hid (drk.cur_later CW.out K3.out C3.out (by have h0 := P0.out; have hs0 := LTZ.out; have hs1 := LTQ.out; have hs2 := SS1.out; have hs3 := LUZ2.out; have hs4 := LUQ2.out; have hs5 := SS3.out; first | omega | (simp <;> omega)) hz.below)
          have Z4 := Lib.hid (hz.box)
          have Q4 := Lib.hid (hz.keep Q3.out (by have h0 := P0.out; have hs0 := LTZ.out; have hs1 := LTQ.out; have hs2 := SS1.out; have hs3 := LUZ2.out; have hs4 := LUQ2.out; have hs5 := SS3.out; first | omega | (simp <;> omega)))
          have O4 := Lib.hid (rgp.oe_set O3.out Z3.out (by decide) (by decide) hz.below.size (fun k hk => hz.other k hk))
          clear hz K3 C3 Z3 Q3 O3
          (try simp only [Exit.inBlock, Exit.then])
          refine bodyPost_ret (v := .agg #[.slice A1 n c1, .int .i64 d]) ?_ rfl ?_
          · rw [results_cell1 rfl]
            exact stw.back Z4.out Try.underlying26 rfl szQ
          · exact ⟨_, _, _, _, _, rfl, ⟨by have := hqn.out.1; omega, hqn.out.2.1, by have := hqn.out.2.2.1; omega, by have := hqn.out.2.2.2; omega⟩, (O4.out).up.down (by have h0 := P0.out; have hs0 := LTZ.out; have hs1 := LTQ.out; have hs2 := SS1.out; have hs3 := LUZ2.out; have hs4 := LUQ2.out; have hs5 := SS3.out; first | omega | (simp <;> omega)), K4.out, C4.out⟩
end Go.Proofs.Ytjmenbpalihnnaa.mq
end
