/- Regions that draw their order, with a pure relation between the values of two operations: paid by whichever comes later; and a change of the world that knows the value of the slot it refers to. Condition: the region's form. -/
import Derived.Test.YtjmenbpalihnnaaRgf
namespace Go.Proofs.Ytjmenbpalihnnaa.reg
open Go Go.RowKit
set_option linter.unusedVariables false

section
variable {P : Program} {ops : Array Oper} {Q : Exit → Act → World → Prop} {C : World → Prop} {R : Nat → Value → World → Prop} {a0 : Act} {E : Nat → Value → World → World → Prop} {D : Nat → Nat → Value → Value → World → Prop} {rf : List (Nat × Tmp)} {sr : List (Nat × Nat)}
/-- The form alone. -/
abbrev Frm (rf : List (Nat × Tmp)) (ops : Array Oper) (a0 : Act) (s : Nat) (L : Array Bool) (a : Act) (w : World) : Prop := Inv rf (fun _ => True) (fun _ _ _ => True) ops a0 s L a w
/-- The value of an operation that is done. -/
def val_ (rf : List (Nat × Tmp)) (ops : Array Oper) (a : Act) (j : Nat) : Value := look a (slot rf j (dst ops j))
structure Gen (C : World → Prop) (R : Nat → Value → World → Prop) (D : Nat → Nat → Value → Value → World → Prop) (rf : List (Nat × Tmp)) (ops : Array Oper) (L : Array Bool) (a : Act) (w : World) : Prop where
  c : C w
  right : ∀ j, L.getD j false = true → (slot rf j (dst ops j)).isSome = true → R j (val_ rf ops a j) w
  pair : ∀ j k, j ≠ k → L.getD j false = true → L.getD k false = true → (slot rf j (dst ops j)).isSome = true → (slot rf k (dst ops k)).isSome = true → D j k (val_ rf ops a j) (val_ rf ops a k) w
theorem keep_val {s N : Nat} {nd : List (Option (List (Nat × Tmp)))} (H : Ok ops s N rf nd) {L : Array Bool} {a : Act} {w : World} {C0 : World → Prop} {R0 : Nat → Value → World → Prop} (I : Inv rf C0 R0 ops a0 s L a w) {i : Nat} {o : Oper} (ho : ops[i]? = some o) (hun : L.getD i true = false) {v : Value} {j : Nat} (hij : i ≠ j) (hl : L.getD j false = true) :
    val_ rf ops (a.put o.dst v) j = val_ rf ops a j := by
  have hd : dst ops i = o.dst := by unfold dst; rw [ho]; rfl
  have hi : i < ops.size := (Array.getElem?_eq_some_iff.1 ho).1
  unfold val_
  cases hdd : dst ops j with
  | some d => exact put_ne fun e => H.apart j i d (dst_lt hdd) hi (Ne.symm hij) hdd (by rw [hd]; exact e)
  | none =>
    cases hrf : rf.lookup j with
    | none => simp only [slot, hrf, look]
    | some d =>
      simp only [slot, hrf]
      obtain ⟨_, hjs, l, k, hl1, hkl⟩ := H.refs j d hrf
      have hjn : j < ops.size := by
        rcases Nat.lt_or_ge j ops.size with h' | h'
        · exact h'
        · simp [Array.getElem?_eq_none (show L.size ≤ j by rw [I.len]; exact h')] at hl
      have hoj : ops[j]? = some ops[j] := Array.getElem?_eq_getElem hjn
      obtain ⟨l', hl2, hdep, _⟩ := H.need j _ hoj hjs
      obtain rfl : l' = l := by simpa using hl2.symm.trans hl1
      obtain ⟨h1, h2, _⟩ := hdep (k, d) hkl
      obtain ⟨e, he, hbi, hon⟩ := edge_of h1 hoj
      have hkL := I.closed j _ hoj hl e he hbi
      rw [hon] at hkL
      refine put_ne fun e => ?_
      have hki : k ≠ i := fun e => by subst e; rw [getD_both hun] at hkL; cases hkL
      exact H.apart k i d (dst_lt h2) hi hki h2 (by rw [hd]; exact e)
/-- The check on what stores refer to. -/
def srB (rf : List (Nat × Tmp)) (nd : List (Option (List (Nat × Tmp)))) (sr : List (Nat × Nat)) : Bool :=
  sr.all fun x => match rf.lookup x.1, nd.getD x.1 none with
    | some t, some d => d.any fun e => e.1 == x.2 && e.2 == t
    | _, _ => false
theorem sr_of {nd : List (Option (List (Nat × Tmp)))} (h : srB rf nd sr = true) {i k : Nat} (hk : sr.lookup i = some k) : ∃ t d, rf.lookup i = some t ∧ nd.getD i none = some d ∧ (k, t) ∈ d := by
  have hm : (i, k) ∈ sr := by
    clear h
    induction sr with
    | nil => cases hk
    | cons x l ih =>
      obtain ⟨x1, x2⟩ := x
      rw [List.lookup_cons] at hk
      split at hk
      · rename_i he
        have he' : i = x1 := by simpa using he
        rw [he', (Option.some.inj hk)]; exact List.mem_cons_self
      · exact List.mem_cons_of_mem _ (ih hk)
  have := List.all_eq_true.1 h _ hm
  simp only at this
  split at this
  · rename_i t d h1 h2
    obtain ⟨e, he, hb⟩ := List.any_eq_true.1 this
    simp only [Bool.and_eq_true, beq_iff_eq] at hb
    obtain ⟨e1, e2⟩ := e
    obtain ⟨rfl, rfl⟩ := hb
    exact ⟨_, d, h1, h2, he⟩
  · cases this
/-- What an operation owes besides its value: the relation to whatever else is there. -/
def Owed (ops : Array Oper) (R : Nat → Value → World → Prop) (D : Nat → Nat → Value → Value → World → Prop) (d : List (Nat × Tmp)) (c : Act) (i : Nat) (x : Value) (w w' : World) : Prop :=
  ∀ k y, k ≠ i → (Region.waitsFor .any ops k i = true → False) → R k y w → (∀ e ∈ d, e.1 = k → y = look c (some e.2)) → (∀ e ∈ d, e.1 ≠ k → D k e.1 y (look c (some e.2)) w ∧ D e.1 k (look c (some e.2)) y w) → D i k x y w' ∧ D k i y x w'
/-- One operation's duty. -/
def ObV (D : Nat → Nat → Value → Value → World → Prop) (E : Nat → Value → World → World → Prop) (rf : List (Nat × Tmp)) (P : Program) (ops : Array Oper) (R : Nat → Value → World → Prop) (C : World → Prop) (a0 : Act) (i : Nat) (o : Oper) (d : List (Nat × Tmp)) : Prop :=
  ∀ w, C w → Obs ops R w (fun c => ∀ K : Act → World → Prop, (∀ v w', R i (told rf c i v o.dst) w' → E i (told rf c i v o.dst) w w' → Owed ops R D d c i (told rf c i v o.dst) w w' → K (c.put o.dst v) w') →
    if Region.wanted o (yielded ops c.tmps) = true then Oper.wp P o c w K QF else K (c.put o.dst undef) w) d a0
def AllV (D : Nat → Nat → Value → Value → World → Prop) (E : Nat → Value → World → World → Prop) (rf : List (Nat × Tmp)) (P : Program) (ops : Array Oper) (R : Nat → Value → World → Prop) (C : World → Prop) (a0 : Act) : Nat → List Oper → List (Option (List (Nat × Tmp))) → Prop
  | i, o :: l, some d :: nd => ObV D E rf P ops R C a0 i o d ∧ AllV D E rf P ops R C a0 (i + 1) l nd
  | i, _ :: l, none :: nd => AllV D E rf P ops R C a0 (i + 1) l nd
  | _, _, _ => True
theorem all_getV : ∀ (l : List Oper) (nd : List (Option (List (Nat × Tmp)))) (k : Nat), AllV D E rf P ops R C a0 k l nd → ∀ (i : Nat) (o : Oper) (d : List (Nat × Tmp)), l[i]? = some o → nd[i]? = some (some d) → ObV D E rf P ops R C a0 (k + i) o d
  | [], _, _, _, i, o, d, ho, _ => by simp at ho
  | o :: l, [], _, _, i, _, d, _, hd => by simp at hd
  | o :: l, none :: nd, k, h, 0, _, d, _, hd => by simp at hd
  | o :: l, none :: nd, k, h, i + 1, o', d, ho, hd => by
    have := all_getV l nd (k + 1) h i o' d (by simpa using ho) (by simpa using hd)
    rwa [show k + 1 + i = k + (i + 1) by omega] at this
  | o :: l, some e :: nd, k, h, 0, o', d, ho, hd => by
    simp at ho hd
    subst ho hd
    exact h.1
  | o :: l, some e :: nd, k, h, i + 1, o', d, ho, hd => by
    have := all_getV l nd (k + 1) h.2 i o' d (by simpa using ho) (by simpa using hd)
    rwa [show k + 1 + i = k + (i + 1) by omega] at this
theorem step_opV {l : List Oper} {s N : Nat} {nd : List (Option (List (Nat × Tmp)))} (H : Ok l.toArray s N rf nd) (hN : a0.tmps.size = N) (hsr : srB rf nd sr = true) (hC : ∀ i x w w', C w → E i x w w' → C w')
    (hR : ∀ i j x y w w', i ≠ j → R j y w → E i x w w' → (∀ k, sr.lookup i = some k → k ≠ j → D k j x y w) → R j y w')
    (hD : ∀ i j k z x y w w', i ≠ j → i ≠ k → j ≠ k → R j x w → R k y w → E i z w w' → D j k x y w → (∀ m, sr.lookup i = some m → (m ≠ j → D m j z x w) ∧ (m ≠ k → D m k z y w)) → D j k x y w')
    {L : Array Bool} {a : Act} {w : World} (I : Frm rf l.toArray a0 s L a w) (G : Gen C R D rf l.toArray L a w) {i : Nat} (his : i < s) (hr : i ∈ Region.ready .any l.toArray L)
    (hob : ∀ o d, l.toArray[i]? = some o → nd[i]? = some (some d) → ObV D E rf P l.toArray R C a0 i o d) {K : Act → World → Prop}
    (hK : ∀ a' w', Frm rf l.toArray a0 s (L.setIfInBounds i true) a' w' → Gen C R D rf l.toArray (L.setIfInBounds i true) a' w' → K a' w') : wpOp P l.toArray Q i K a w := by
  obtain ⟨hun, o, ho, hall⟩ := mem_ready.1 hr
  have hun' := hun
  have hd : dst l.toArray i = o.dst := by unfold dst; rw [ho]; rfl
  have hi : i < l.toArray.size := (Array.getElem?_eq_some_iff.1 ho).1
  obtain ⟨d, hnd, hdep, hlook⟩ := H.need i o ho his
  have hlist : ∀ j ∈ d, L.getD j.1 false = true := fun j hj => by
    obtain ⟨e, he, hb, hon⟩ := edge_of (hdep j hj).1 ho
    rw [← hon]; exact hall e he hb
  have hc := obs_puts (a := a) _ _ (hob o d ho hnd w G.c) fun j hj => by
    have := G.right j.1 (hlist j hj) (by rw [(hdep j hj).2.1]; rfl)
    unfold val_ at this
    rwa [(hdep j hj).2.1] at this
  have hcs : (puts l.toArray a d a0).tmps.size = a.tmps.size := by rw [puts_size]; exact I.size.symm
  have hag : ∀ k ∈ o.looksAt l.toArray, a.tmps.getD k undef = (puts l.toArray a d a0).tmps.getD k undef := fun k hk => by
    rcases hlook k hk with h | h
    · exact (puts_in a d a0 I.size h).symm
    · refine (puts_kept a d a0 I.size (I.base k fun j hl => h j ?_).symm).symm
      rcases Nat.lt_or_ge j s with h' | h'
      · exact h'
      · rw [I.tail j h'] at hl; cases hl
  have hsel := Region.noSelect_spec H.sel i o
  have hneed : ∀ e ∈ d, look (puts l.toArray a d a0) (some e.2) = val_ rf l.toArray a e.1 := fun e he => by
    unfold val_
    rw [(hdep e he).2.1]
    exact puts_in a d a0 I.size ⟨e, he, rfl⟩
  have h1 := hc (fun a' w' => ∃ v, a' = (puts l.toArray a d a0).put o.dst v ∧ R i (told rf (puts l.toArray a d a0) i v o.dst) w' ∧ E i (told rf (puts l.toArray a d a0) i v o.dst) w w' ∧ Owed l.toArray R D d (puts l.toArray a d a0) i (told rf (puts l.toArray a d a0) i v o.dst) w w') fun v w' h2 h3 h4 => ⟨v, rfl, h2, h3, h4⟩
  have fin : ∀ v w', (∃ v', (puts l.toArray a d a0).put o.dst v = (puts l.toArray a d a0).put o.dst v' ∧ R i (told rf (puts l.toArray a d a0) i v' o.dst) w' ∧ E i (told rf (puts l.toArray a d a0) i v' o.dst) w w' ∧ Owed l.toArray R D d (puts l.toArray a d a0) i (told rf (puts l.toArray a d a0) i v' o.dst) w w') → K (a.put o.dst v) w' := by
    rintro v w' ⟨v', e, h2, h3, h4⟩
    -- the value told is the one that stands there
    have hx : (slot rf i (dst l.toArray i)).isSome = true → told rf (puts l.toArray a d a0) i v' o.dst = val_ rf l.toArray (a.put o.dst v) i := fun hsm => by
      unfold val_
      rw [hd] at hsm ⊢
      cases hx' : o.dst with
      | some x =>
        rw [hx'] at e
        have hx : dst l.toArray i = some x := by rw [hd]; exact hx'
        have hlt : x < (puts l.toArray a d a0).tmps.size := by rw [puts_size, hN]; exact H.room i x hx
        have h4 : ((puts l.toArray a d a0).put (some x) v).tmps.getD x undef = ((puts l.toArray a d a0).put (some x) v').tmps.getD x undef := by rw [e]
        rw [put_at hlt, put_at hlt] at h4
        show v' = _
        rw [← h4]
        exact (put_at (by rw [I.size, hN]; exact H.room i x hx)).symm
      | none =>
        rw [hx'] at hsm
        obtain ⟨x, hx⟩ := Option.isSome_iff_exists.1 hsm
        have hx2 : rf.lookup i = some x := hx
        obtain ⟨_, _, l', k, hl1, hkl⟩ := H.refs i x hx2
        obtain rfl : l' = d := by simpa using hl1.symm.trans hnd
        show look (puts l.toArray a l' a0) (rf.lookup i) = look (a.put none v) (rf.lookup i)
        rw [hx2]
        exact puts_in a l' a0 I.size ⟨(k, x), hkl, rfl⟩
    have hs1 : ∀ k, sr.lookup i = some k → L.getD k false = true ∧ (slot rf k (dst l.toArray k)).isSome = true ∧ told rf (puts l.toArray a d a0) i v' o.dst = val_ rf l.toArray a k := fun k hk => by
      obtain ⟨t, d', h5, h6, h7⟩ := sr_of hsr hk
      have hd2 : d' = d := by
        have e5 : nd.getD i none = some d := by rw [List.getD_eq_getElem?_getD, hnd]; rfl
        exact Option.some.inj (h6.symm.trans e5)
      subst hd2
      have h8 := hdep (k, t) h7
      have hn : o.dst = none := by rw [← hd]; exact (H.refs i t h5).1
      refine ⟨hlist _ h7, by rw [h8.2.1]; rfl, ?_⟩
      rw [hn]
      show look (puts l.toArray a d' a0) (rf.lookup i) = _
      rw [h5]
      exact hneed _ h7
    have F' : Frm rf l.toArray a0 s (L.setIfInBounds i true) (a.put o.dst v) w' := inv_step (E := fun _ _ _ => True) H hN (fun _ _ _ _ _ => trivial) (fun _ _ _ _ _ _ _ _ => trivial) I ho his hr (fun _ => trivial) trivial
    have back : ∀ j, i ≠ j → (L.setIfInBounds i true).getD j false = true → L.getD j false = true := fun j hij hl => by rwa [getD_set_ne false hij] at hl
    refine hK _ _ F' ⟨hC _ _ _ _ G.c h3, fun j hl hsm => ?_, fun j k hjk hl hm hsj hsk => ?_⟩
    · by_cases hij : i = j
      · subst hij
        rw [← hx hsm]; exact h2
      · rw [keep_val H I ho hun hij (back j hij hl)]
        refine hR i j _ _ _ _ hij (G.right j (back j hij hl) hsm) h3 fun k hk hkj => ?_
        obtain ⟨g1, g2, g3⟩ := hs1 k hk
        rw [g3]
        exact G.pair k j hkj g1 (back j hij hl) g2 hsm
    · have owe : ∀ k, i ≠ k → L.getD k false = true → (slot rf k (dst l.toArray k)).isSome = true → D i k (told rf (puts l.toArray a d a0) i v' o.dst) (val_ rf l.toArray a k) w' ∧ D k i (val_ rf l.toArray a k) (told rf (puts l.toArray a d a0) i v' o.dst) w' := fun k hik hk hsk =>
        h4 k _ (Ne.symm hik) (fun hw => by
          obtain ⟨ok, hok, _⟩ := Region.waitsFor_spec hw
          obtain ⟨e, he, hb, hon⟩ := edge_of hw hok
          have := I.closed k ok hok hk e he hb
          rw [hon, getD_both hun'] at this; cases this) (G.right k hk hsk) (fun e he hek => by rw [hneed e he, hek]) fun e he hek => by
          rw [hneed e he]
          have hse : (slot rf e.1 (dst l.toArray e.1)).isSome = true := by rw [(hdep e he).2.1]; rfl
          exact ⟨G.pair k e.1 (Ne.symm hek) hk (hlist e he) hsk hse, G.pair e.1 k hek (hlist e he) hk hse hsk⟩
      by_cases hij : i = j
      · subst hij
        rw [← hx hsj, keep_val H I ho hun hjk (back k hjk hm)]
        exact (owe k hjk (back k hjk hm) hsk).1
      · by_cases hik : i = k
        · subst hik
          rw [← hx hsk, keep_val H I ho hun hij (back j hij hl)]
          exact (owe j hij (back j hij hl) hsj).2
        · rw [keep_val H I ho hun hij (back j hij hl), keep_val H I ho hun hik (back k hik hm)]
          refine hD i j k (told rf (puts l.toArray a d a0) i v' o.dst) _ _ _ _ hij hik hjk (G.right j (back j hij hl) hsj) (G.right k (back k hik hm) hsk) h3 (G.pair j k hjk (back j hij hl) (back k hik hm) hsj hsk) fun m hm' => ?_
          obtain ⟨g1, g2, g3⟩ := hs1 m hm'
          rw [g3]
          exact ⟨fun h => G.pair m j h g1 (back j hij hl) g2 hsj, fun h => G.pair m k h g1 (back k hik hm) g2 hsk⟩
  unfold wpOp
  rw [ho]
  simp only
  rw [wanted_same hcs.symm hag]
  split
  · rename_i hw
    rw [if_pos hw] at h1
    refine .inl ?_
    unfold Oper.wp at h1 ⊢
    rw [exec_same (fun cs b => hsel cs b ho) hag]
    refine upon_move fin (fun dd w' hh => ?_) h1
    obtain ⟨v', e, _⟩ := hh
    have := congrArg Act.defers e
    rw [put_defers, put_defers] at this
    exact absurd (congrArg List.length this) (by simp)
  · rename_i hw
    rw [if_neg hw] at h1
    exact fin _ _ h1
theorem any_plainV {l : List Oper} {N : Nat} {nd : List (Option (List (Nat × Tmp)))} (H : Ok l.toArray l.length N rf nd) (hN : a0.tmps.size = N) (hsr : srB rf nd sr = true) (hC : ∀ i x w w', C w → E i x w w' → C w')
    (hR : ∀ i j x y w w', i ≠ j → R j y w → E i x w w' → (∀ k, sr.lookup i = some k → k ≠ j → D k j x y w) → R j y w')
    (hD : ∀ i j k z x y w w', i ≠ j → i ≠ k → j ≠ k → R j x w → R k y w → E i z w w' → D j k x y w → (∀ m, sr.lookup i = some m → (m ≠ j → D m j z x w) ∧ (m ≠ k → D m k z y w)) → D j k x y w')
    (hA : AllV D E rf P l.toArray R C a0 0 l nd)
    (hF : ∀ w, C w → Obs l.toArray R w (fun c => (∀ x ∈ rf, rf.lookup x.1 = some x.2 → R x.1 (look c (some x.2)) w) → (∀ x ∈ heads l.toArray l.length, ∀ y ∈ heads l.toArray l.length, x.1 ≠ y.1 → D x.1 y.1 (look c (some x.2)) (look c (some y.2)) w) → (∀ x ∈ rf, rf.lookup x.1 = some x.2 → ∀ y ∈ heads l.toArray l.length, D x.1 y.1 (look c (some x.2)) (look c (some y.2)) w) → Q .normal c w) (heads l.toArray l.length) a0) : ∀ (fuel : Nat) (L : Array Bool) (a : Act) (w : World), L.toList.count false ≤ fuel → Frm rf l.toArray a0 l.length L a w → Gen C R D rf l.toArray L a w →
    wpAny P .any l.toArray Q fuel L a w := by
  intro fuel
  have fin : ∀ (L : Array Bool) (a : Act) (w : World), Region.ready .any l.toArray L = [] → Frm rf l.toArray a0 l.length L a w → Gen C R D rf l.toArray L a w → Q .normal a w := fun L a w h0 I G => by
    have hall : ∀ i, i < l.toArray.size → L.getD i false = true := fun i hi => by
      cases hx : L.getD i false with
      | true => rfl
      | false => exact absurd h0 (some_ready H I.len (i + 1) i (by omega) hi (getD_in (by rw [I.len]; exact hi) hx))
    refine all_done (R := R) (C := C) H ⟨G.c, I.len, I.closed, I.tail, I.defers, I.size, I.base, G.right⟩ (fun i _ hi => hall i hi) (hF w G.c) (fun x hx hlk => ?_) (fun x hx y hy hxy => ?_) fun x hx hlk y hy => ?_
    · obtain ⟨h1, h2, _⟩ := H.refs x.1 x.2 hlk
      have := G.right x.1 (hall x.1 (by simpa using h2)) (by rw [h1]; simp only [slot, hlk]; rfl)
      unfold val_ at this
      rw [h1] at this
      simp only [slot, hlk] at this
      exact this
    · obtain ⟨h1, h2⟩ := mem_heads hx
      obtain ⟨h3, h4⟩ := mem_heads hy
      have := G.pair x.1 y.1 hxy (hall x.1 (dst_lt h2)) (hall y.1 (dst_lt h4)) (by rw [h2]; rfl) (by rw [h4]; rfl)
      unfold val_ at this
      rw [h2, h4] at this
      exact this
    · obtain ⟨h1, h2, _⟩ := H.refs x.1 x.2 hlk
      obtain ⟨h3, h4⟩ := mem_heads hy
      have hne : x.1 ≠ y.1 := fun e => by rw [e, h4] at h1; cases h1
      have := G.pair x.1 y.1 hne (hall x.1 (by simpa using h2)) (hall y.1 (dst_lt h4)) (by rw [h1]; simp only [slot, hlk]; rfl) (by rw [h4]; rfl)
      unfold val_ at this
      rw [h1, h4] at this
      simp only [slot, hlk] at this
      exact this
  induction fuel with
  | zero =>
    intro L a w hc I G
    have h0 : Region.ready .any l.toArray L = [] := List.eq_nil_iff_forall_not_mem.2 fun i hi => by
      have := (mem_ready.1 hi).1
      rw [none_left (by omega) i] at this; cases this
    exact ⟨h0, fin L a w h0 I G⟩
  | succ fuel ih =>
    intro L a w hc I G
    refine ⟨fun h0 => fin L a w h0 I G, fun i hi => ?_⟩
    obtain ⟨hun, o, ho, _⟩ := mem_ready.1 hi
    have hin : i < l.toArray.size := (Array.getElem?_eq_some_iff.1 ho).1
    refine step_opV (sr := sr) H hN hsr hC hR hD I G (by simpa using hin) hi (fun o' d ho' hnd => ?_) fun a' w' I' G' => ih _ _ _ (by have := count_set hun; omega) I' G'
    have := all_getV l nd 0 hA i o' d (by simpa using ho') hnd
    rwa [Nat.zero_add] at this
/-- The rule. -/
theorem region_pairs {id : Nat} {l : List Oper} {w : World} (E : Nat → Value → World → World → Prop) (D : Nat → Nat → Value → Value → World → Prop) (sr : List (Nat × Nat)) (N : Nat) (rf : List (Nat × Tmp)) (nd : List (Option (List (Nat × Tmp)))) (hd : List (Nat × Tmp)) (C : World → Prop) (R : Nat → Value → World → Prop) (hm : P.follows .mixedOrders = true) (hB : okB l.toArray l.length N rf nd = true) (hN : a0.tmps.size = N) (hsr : srB rf nd sr = true)
    (hC : ∀ i x w w', C w → E i x w w' → C w') (hR : ∀ i j x y w w', i ≠ j → R j y w → E i x w w' → (∀ k, sr.lookup i = some k → k ≠ j → D k j x y w) → R j y w')
    (hD : ∀ i j k z x y w w', i ≠ j → i ≠ k → j ≠ k → R j x w → R k y w → E i z w w' → D j k x y w → (∀ m, sr.lookup i = some m → (m ≠ j → D m j z x w) ∧ (m ≠ k → D m k z y w)) → D j k x y w') (h0 : C w.drew) (hH : heads l.toArray l.length = hd) (hA : AllV D E rf P l.toArray R C a0 0 l nd)
    (hF : ∀ w, C w → Obs l.toArray R w (fun c => (∀ x ∈ rf, rf.lookup x.1 = some x.2 → R x.1 (look c (some x.2)) w) → (∀ x ∈ hd, ∀ y ∈ hd, x.1 ≠ y.1 → D x.1 y.1 (look c (some x.2)) (look c (some y.2)) w) → (∀ x ∈ rf, rf.lookup x.1 = some x.2 → ∀ y ∈ hd, D x.1 y.1 (look c (some x.2)) (look c (some y.2)) w) → Q .normal c w) hd a0) : (Code.region id l.toArray true).wp P Q a0 w :=
  wp_region_any hm (by
    subst hH
    have I0 := inv_start (rf := rf) (C := fun _ => True) (R := fun _ _ _ => True) (ops := l.toArray) (a0 := a0) (s := l.length) (w := w.drew) trivial
    exact any_plainV (sr := sr) (Q := Q) (ok_of hB) hN hsr hC hR hD hA hF _ _ a0 w.drew (by simp) I0 ⟨h0, fun j hl => by simp [Array.getD] at hl, fun j k _ hl => by simp [Array.getD] at hl⟩)
end
end Go.Proofs.Ytjmenbpalihnnaa.reg
