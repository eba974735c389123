/- ReceiveNumbered of the specification. Condition: sizes up to 2^26. -/
import Derived.Test.YtejjafmppihneaaRhc
namespace Go.Proofs.Ytejjafmppihneaa.ro
open Go.RowKit sl harn bx stw
set_option linter.unusedVariables false
open ux (Nf Rob RR OO row rowB rowNf nf rob)
open mrw (blkOf)
open bs (nsq sqd)
set_option linter.unusedSimpArgs false
open mrw (blkOf)
open bx hiding below_box

theorem rc_no {r : Rob} {n : Int} {b : List Int} (h : (may r n && decide (b.length ≤ 100)) = false) : recv r n b = (r, []) := by unfold recv; rw [if_neg (by simp [h])]
theorem specMod15 (m m2 : Int) (h : (m - 15) % 4096 = m2) (w : World) : Calls Try.prog 46 #[.int .i64 (m - 16 + 1), .int .i64 4096] w fun e w' => e = .returned (.int .i64 m2) ∧ w = w' := by
  have h1 := hsh.specMod (m - 16 + 1) 4096 (by omega) w
  rwa [show (m - 16 + 1) % 4096 = m2 by omega] at h1
theorem rc_put {s m : Int} {xs : List Nf} {ws tw : Win} {zb : List Int} {d p j : Nat} {ts : Int} {to : List (List Int)} (hm : (may ⟨s, xs⟩ m && decide (zb.length ≤ 100)) = true) (hst : start ⟨s, xs⟩ = ⟨s, ws, []⟩) (hd : sqd s m = d) (hp : d - 15 = p) (hj : d - p = j) (hT : advS ⟨s, ws, []⟩ p = ⟨ts, tw, to⟩) :
    recv ⟨s, xs⟩ m zb = (buf (runS ⟨ts, kp tw j zb, to⟩), (runS ⟨ts, kp tw j zb, to⟩).out) := by
  rw [rd_yes hm, hst, show sqd (⟨s, xs⟩ : Rob).Start m = d from hd, Int.toNat_natCast]
  unfold put1
  rw [hp, hj, hT]
theorem rc_still {s m : Int} {xs : List Nf} {ws tw : Win} {zb x : List Int} {d p j : Nat} {ts : Int} {to : List (List Int)} (hm : (may ⟨s, xs⟩ m && decide (zb.length ≤ 100)) = true) (hst : start ⟨s, xs⟩ = ⟨s, ws, []⟩) (hd : sqd s m = d) (hp : d - 15 = p) (hj : d - p = j) (hT : advS ⟨s, ws, []⟩ p = ⟨ts, tw, to⟩) (hok : Ok s ws) (hx : tw[j]? = some (some x)) :
    recv ⟨s, xs⟩ m zb = (⟨ts, pend ts tw⟩, to) := by
  rw [rc_put hm hst hd hp hj hT, kp_no (by rw [hx]; simp)]
  rcases Nat.eq_zero_or_pos p with h0 | h0
  · subst h0
    rw [adv_zero (t := ⟨s, ws, []⟩) hok.s] at hT
    injection hT with e1 e2 e3
    subst e1 e2 e3
    rw [run_still (t := ⟨s, ws, []⟩) hok.h0 hok.s]; rfl
  · exfalso
    have e : tw = ws.drop p ++ List.replicate (min p ws.length) none := (congrArg St.ws hT).symm
    have hl := hok.len
    rw [e, List.getElem?_append_right (by rw [List.length_drop]; omega), List.length_drop, List.getElem?_replicate] at hx
    split at hx <;> simp at hx
theorem adv_of {s : Int} {ws tw : Win} {p : Nat} {ts : Int} {to : List (List Int)} (hT : advS ⟨s, ws, []⟩ p = ⟨ts, tw, to⟩) (hl : ws.length = 16) : (0 ≤ ts ∧ ts ≤ 4095) ∧ tw.length = 16 ∧ to.length ≤ 16 ∧ ts = (s + (p : Int)) % 4096 := by
  have h1 := adv_s ⟨s, ws, []⟩ p
  have h2 := adv_len ⟨s, ws, []⟩ p
  have h3 := adv_out ⟨s, ws, []⟩ p
  have h4 : (advS ⟨s, ws, []⟩ p).s = (s + (p : Int)) % 4096 := rfl
  rw [hT] at h1 h2 h3 h4
  refine ⟨h1, by rw [← hl]; exact h2, ?_, h4⟩
  simp only [List.length_nil, hl] at h3; omega
/-- A new frame's place in the list. -/
theorem ins_data {ts m : Int} {tw : Win} {zb : List Int} {j K : Nat} (hn : tw[j]? = some none) (hm : m = (ts + (j : Int)) % 4096) (h1 : (pend ts tw).take K = pend ts (tw.take j)) (h2 : (pend ts tw).drop K = pend (ts + (j : Int)) (tw.drop j)) : (pend ts tw).take K ++ [⟨m, zb⟩] ++ (pend ts tw).drop K = pend ts (kp tw j zb) := by
  rw [kp_yes hn, pend_set hn, h1, h2, hm]; simp
theorem none_end {ts : Int} {tw : Win} {j : Nat} (h : pend (ts + (j : Int)) (tw.drop j) = []) (hj : j < tw.length) : tw[j]? = some none := by
  have h1 := pend_none_of _ _ h (tw[j]) (by rw [List.drop_eq_getElem_cons hj]; exact List.mem_cons_self)
  rw [List.getElem?_eq_getElem hj, h1]
theorem place_at {ts m : Int} {tw : Win} {j : Nat} {x : Nf} (hl : tw.length = 16) (hm : m = (ts + (j : Int)) % 4096) (hx : (pend (ts + (j : Int)) (tw.drop j))[0]? = some x) : (x.Seq = m ∧ tw[j]? = some (some x.Body)) ∨ (x.Seq ≠ m ∧ tw[j]? = some none) := by
  rcases pend_head (by rw [List.length_drop]; omega) hx with ⟨h1, h2⟩ | ⟨h1, r, h2⟩
  · exact .inl ⟨by rw [hm]; exact h1, (drop_head h2).1⟩
  · exact .inr ⟨by rw [hm]; exact h1, (drop_head h2).1⟩
/-- What l22Move hands back, as a value of a region. -/
def mvS (F : Nat → Prop) (B : Nat) (s : Int) (xs : List Nf) (l : List (List Int)) : reg.Stay reg.Bel :=
  ⟨fun v w => ∃ A n c A2 n2 c2, v = .tuple #[.agg #[.int .i64 s, .slice A n c], .slice A2 n2 c2] ∧ NF F w A n c xs ∧ OF F w B A2 n2 c2 l ∧ (∀ g, blkOf A2 = some g → ¬ F g), fun v w w' ⟨A, n, c, A2, n2, c2, e, h1, h2, h3⟩ hb => ⟨A, n, c, A2, n2, c2, e, h1.below hb, h2.below hb, h3⟩⟩
def mvA (F : Nat → Prop) (s : Int) (xs : List Nf) : reg.Stay reg.Bel :=
  ⟨fun v w => ∃ A n c, v = .agg #[.int .i64 s, .slice A n c] ∧ NF F w A n c xs, fun v w w' ⟨A, n, c, e, h1⟩ hb => ⟨A, n, c, e, h1.below hb⟩⟩
def mvO (F : Nat → Prop) (B : Nat) (l : List (List Int)) : reg.Stay reg.Bel :=
  ⟨fun v w => ∃ A2 n2 c2, v = .slice A2 n2 c2 ∧ OF F w B A2 n2 c2 l ∧ (∀ g, blkOf A2 = some g → ¬ F g), fun v w w' ⟨A2, n2, c2, e, h2, h3⟩ hb => ⟨A2, n2, c2, e, h2.below hb, h3⟩⟩
theorem BF.cells {F : Nat → Prop} {w w' : World} {A : Option Addr} {n c : Nat} {zs : List Int} (h : BF F w A n c zs) (hs : w.heap.size ≤ w'.heap.size) (hb : ∀ b, F b → w'.heap[b]? = w.heap[b]?) : BF F w' A n c zs := by
  obtain ⟨k1, k2, k3, k4, k5⟩ := h
  refine ⟨k1, k2, k3, k4, fun hn2 => ?_⟩
  obtain ⟨b2, off2, e2, l1, l2, l3⟩ := k5 hn2
  exact ⟨b2, off2, e2, l1, by omega, fun j hj => (World.cell?_of_block (hb b2 l1)).trans (l3 j hj)⟩
theorem NF.cells {F : Nat → Prop} {w w' : World} {A : Option Addr} {n c : Nat} {xs : List Nf} (h : NF F w A n c xs) (hs : w.heap.size ≤ w'.heap.size) (hb : ∀ b, F b → w'.heap[b]? = w.heap[b]?) : NF F w' A n c xs := by
  obtain ⟨h1, h2, h3, h5, h6⟩ := h
  refine ⟨h1, h2, h3, fun hn => ?_, h6.same hb⟩
  obtain ⟨b, off, e, g1, g2, g3⟩ := h5 hn
  refine ⟨b, off, e, g1, by omega, fun i x hx => ?_⟩
  obtain ⟨A0, n0, c0, r1, r2, r3⟩ := g3 i x hx
  exact ⟨A0, n0, c0, (World.cell?_of_block (hb b g1)).trans r1, (World.cell?_of_block (hb b g1)).trans r2, r3.cells hs hb⟩
theorem OF.cells {F : Nat → Prop} {w w' : World} {lo n c : Nat} {A : Option Addr} {l : List (List Int)} (h : OF F w lo A n c l) (hs : w.heap.size ≤ w'.heap.size) (hb : ∀ b, F b → w'.heap[b]? = w.heap[b]?) (hA : ∀ q, blkOf A = some q → w'.heap[q]? = w.heap[q]?) : OF F w' lo A n c l := by
  obtain ⟨vs, ⟨h1, h2⟩, h3, h4⟩ := h
  refine ⟨vs, ⟨h1, ?_⟩, h3, fun i y hy => ?_⟩
  · rcases h2 with h2 | ⟨g, c', cur, e, g1, g2, g3⟩
    · exact .inl h2
    · injection e with e1 e2 e3
      subst e1 e3
      exact .inr ⟨g, _, cur, rfl, g1, (hA g rfl).trans g2, g3⟩
  · obtain ⟨A0, n0, c0, r1, r2⟩ := h4 i y hy
    exact ⟨A0, n0, c0, r1, r2.cells hs hb⟩
/-- What the operations of the region that gives up the front of a window may change, and their values. -/
def Er7 (bc i : Nat) (w w' : World) : Prop := if i = 9 then ∃ cs, Put 50 w bc cs w' else Below w.heap.size w w'
def Rr7 (F : Nat → Prop) (bc : Nat) (s : Int) (xs : List Nf) (l : List (List Int)) (is : List (Nat × Value)) (j : Nat) (v : Value) (w : World) : Prop :=
  if j = 5 ∨ j = 6 then (mvS F (bc + 1) s xs l).1 v w else if j = 7 then (mvA F s xs).1 v w else if j = 8 then (mvO F (bc + 1) l).1 v w else if j = 9 then (∃ A n c, Bx 50 w bc #[.int .i64 s, .slice A n c] ∧ NF F w A n c xs) else match is.lookup j with | some u => v = u | none => True
def Ur7 (bc : Nat) (cs : Array Value) (j : Nat) (w : World) : Prop := (8 ≤ j ∧ j ≠ 9) ∨ Bx 50 w bc cs
theorem r7_keep {F : Nat → Prop} {bc : Nat} {s : Int} {xs : List Nf} {l : List (List Int)} {is : List (Nat × Value)} {ops : Array Oper} (hF : ∀ b, F b → b < bc) :
    ∀ i j v w w', i ≠ j → reg.waits ops j i = false → Rr7 F bc s xs l is j v w → Er7 bc i w w' → Rr7 F bc s xs l is j v w' := by
  intro i j v w w' hij hwt h hg
  have key : w.heap.size ≤ w'.heap.size → (∀ b, b < w.heap.size → b ≠ bc → w'.heap[b]? = w.heap[b]?) → (j = 9 → Below w.heap.size w w') → Rr7 F bc s xs l is j v w' := by
    intro hs hb h9
    have nf : ∀ {A : Option Addr} {n c : Nat}, NF F w A n c xs → NF F w' A n c xs := fun {A n c} g => by
      rcases Nat.lt_or_ge bc w.heap.size with h0 | h0
      · exact g.cells hs fun b hf => hb b (by have := hF b hf; omega) (by have := hF b hf; omega)
      · refine NF.cells (F := fun b => F b ∧ b < w.heap.size) ?_ hs (fun b hf => hb b hf.2 (by have := hF b hf.1; omega)) |>.mono fun b hf => hf.1
        obtain ⟨k1, k2, k3, k5, k6⟩ := g
        refine ⟨k1, k2, k3, fun hn => ?_, fun hc => by obtain ⟨b, off, cur, e, g1, g2, g3⟩ := k6 hc; exact ⟨b, off, cur, e, ⟨g1, lt_of_block g2⟩, g2, g3⟩⟩
        obtain ⟨b, off, e, g1, g2, g3⟩ := k5 hn
        refine ⟨b, off, e, ⟨g1, g2⟩, g2, fun i x hx => ?_⟩
        obtain ⟨A0, n0, c0, r1, r2, q1, q2, q3, q4, q5⟩ := g3 i x hx
        refine ⟨A0, n0, c0, r1, r2, q1, q2, q3, q4, fun hn2 => ?_⟩
        obtain ⟨b2, off2, e2, l1, l2, l3⟩ := q5 hn2
        exact ⟨b2, off2, e2, ⟨l1, l2⟩, l2, l3⟩
    have of : ∀ {A : Option Addr} {n c : Nat}, OF F w (bc + 1) A n c l → OF F w' (bc + 1) A n c l := fun {A n c} g => by
      obtain ⟨vs, ⟨h1, h2⟩, h3, h4⟩ := g
      have bf : ∀ {A0 : Option Addr} {n0 c0 : Nat} {y : List Int}, BF F w A0 n0 c0 y → BF F w' A0 n0 c0 y := fun {A0 n0 c0 y} g => by
        obtain ⟨k1, k2, k3, k4, k5⟩ := g
        refine ⟨k1, k2, k3, k4, fun hn2 => ?_⟩
        obtain ⟨b2, off2, e2, l1, l2, l3⟩ := k5 hn2
        exact ⟨b2, off2, e2, l1, by omega, fun j hj => (World.cell?_of_block (hb b2 l2 (by have := hF b2 l1; omega))).trans (l3 j hj)⟩
      refine ⟨vs, ⟨h1, ?_⟩, h3, fun i y hy => ?_⟩
      · rcases h2 with h2 | ⟨g, c', cur, e, g1, g2, g3⟩
        · exact .inl h2
        · exact .inr ⟨g, c', cur, e, g1, (hb g (lt_of_block g2) (by omega)).trans g2, g3⟩
      · obtain ⟨A0, n0, c0, r1, r2⟩ := h4 i y hy
        exact ⟨A0, n0, c0, r1, bf r2⟩
    unfold Rr7 at h ⊢
    by_cases j5 : j = 5 ∨ j = 6
    · rw [if_pos j5] at h ⊢
      obtain ⟨A, n, c, A2, n2, c2, e, h1, h2, h3⟩ := h
      exact ⟨A, n, c, A2, n2, c2, e, nf h1, of h2, h3⟩
    rw [if_neg j5] at h ⊢
    by_cases j7 : j = 7
    · rw [if_pos j7] at h ⊢
      obtain ⟨A, n, c, e, h1⟩ := h
      exact ⟨A, n, c, e, nf h1⟩
    rw [if_neg j7] at h ⊢
    by_cases j8 : j = 8
    · rw [if_pos j8] at h ⊢
      obtain ⟨A, n, c, e, h1, h3⟩ := h
      exact ⟨A, n, c, e, of h1, h3⟩
    rw [if_neg j8] at h ⊢
    by_cases j9 : j = 9
    · rw [if_pos j9] at h ⊢
      obtain ⟨A, n, c, hX, h1⟩ := h
      exact ⟨A, n, c, hX.below (h9 j9), nf h1⟩
    rw [if_neg j9] at h ⊢
    exact h
  unfold Er7 at hg
  by_cases i9 : i = 9
  · rw [if_pos i9] at hg
    obtain ⟨cs, hp⟩ := hg
    exact key hp.below.size (fun b _ hb => hp.other b hb) (fun e => absurd (i9.trans e.symm) hij)
  · rw [if_neg i9] at hg
    exact key hg.size (fun b hb _ => hg.block b hb) (fun _ => hg)
theorem u7_keep {bc : Nat} {cs : Array Value} {ops : Array Oper} (hw : (List.range 8).all (fun j => reg.waits ops 9 j) = true) : ∀ i j w w', i ≠ j → reg.waits ops i j = false → Ur7 bc cs j w → Er7 bc i w w' → Ur7 bc cs j w' := by
  intro i j w w' hij hwt h hg
  unfold Er7 at hg
  rcases h with h | h
  · exact .inl h
  by_cases i9 : i = 9
  · left
    subst i9
    refine ⟨?_, fun e => hij e.symm⟩
    rcases Nat.lt_or_ge j 8 with h8 | h8
    · have := List.all_eq_true.1 hw j (List.mem_range.2 h8)
      rw [this] at hwt; cases hwt
    · exact h8
  · rw [if_neg i9] at hg
    exact .inr (h.below hg)
/-- A slice of shared frames, its blocks in two ranges. -/
def Nrow (F : Nat → Prop) (lo hi lo2 hi2 : Nat) (w : World) (A : Option Addr) (n c : Nat) (xs : List Nf) : Prop := (∀ b, F b → (lo ≤ b ∧ b < hi) ∨ (lo2 ≤ b ∧ b < hi2)) ∧ (hi ≤ w.heap.size ∧ hi2 ≤ w.heap.size) ∧ NF F w A n c xs
/-- A slice of bodies beside it, its own block in a range of its own. -/
def Orow (F : Nat → Prop) (lo hi lo2 hi2 L H : Nat) (w : World) (A : Option Addr) (n c : Nat) (l : List (List Int)) : Prop := (∀ b, F b → (lo ≤ b ∧ b < hi) ∨ (lo2 ≤ b ∧ b < hi2)) ∧ (hi ≤ w.heap.size ∧ hi2 ≤ w.heap.size ∧ H ≤ w.heap.size) ∧ OF F w L A n c l ∧ ∀ g, blkOf A = some g → (L ≤ g ∧ g < H) ∧ ¬ F g
section
variable {F : Nat → Prop} {lo hi lo2 hi2 L H n c : Nat} {w w' : World} {A : Option Addr} {xs : List Nf} {l : List (List Int)}
theorem Nrow.fi (h : Nrow F lo hi lo2 hi2 w A n c xs) : ∀ b, F b → (lo ≤ b ∧ b < hi) ∨ (lo2 ≤ b ∧ b < hi2) := h.1
theorem Nrow.nf (h : Nrow F lo hi lo2 hi2 w A n c xs) : NF F w A n c xs := h.2.2
theorem Nrow.hi_ (h : Nrow F lo hi lo2 hi2 w A n c xs) : hi ≤ w.heap.size ∧ hi2 ≤ w.heap.size := h.2.1
theorem Nrow.len (h : Nrow F lo hi lo2 hi2 w A n c xs) : xs.length = n ∧ n ≤ c ∧ c ≤ 9223372036854775807 := ⟨h.2.2.1, h.2.2.2.1, h.2.2.2.2.1⟩
theorem Nrow.same (h : Nrow F lo hi lo2 hi2 w A n c xs) (hs : w.heap.size ≤ w'.heap.size) (hb : ∀ b, ((lo ≤ b ∧ b < hi) ∨ (lo2 ≤ b ∧ b < hi2)) → True → w'.heap[b]? = w.heap[b]?) : Nrow F lo hi lo2 hi2 w' A n c xs :=
  ⟨h.1, ⟨Nat.le_trans h.2.1.1 hs, Nat.le_trans h.2.1.2 hs⟩, h.2.2.cells hs fun b hf => hb b (h.1 b hf) trivial⟩
theorem Nrow.below (h : Nrow F lo hi lo2 hi2 w A n c xs) (hb : Below w.heap.size w w') : Nrow F lo hi lo2 hi2 w' A n c xs := h.same hb.size fun b hb2 _ => hb.block b (by have h1 := h.2.1; omega)
theorem Orow.fi (h : Orow F lo hi lo2 hi2 L H w A n c l) : ∀ b, F b → (lo ≤ b ∧ b < hi) ∨ (lo2 ≤ b ∧ b < hi2) := h.1
theorem Orow.of_ (h : Orow F lo hi lo2 hi2 L H w A n c l) : OF F w L A n c l := h.2.2.1
theorem Orow.hi_ (h : Orow F lo hi lo2 hi2 L H w A n c l) : hi ≤ w.heap.size ∧ hi2 ≤ w.heap.size ∧ H ≤ w.heap.size := h.2.1
theorem Orow.blk (h : Orow F lo hi lo2 hi2 L H w A n c l) : ∀ g, blkOf A = some g → (L ≤ g ∧ g < H) ∧ ¬ F g := h.2.2.2
theorem Orow.same (h : Orow F lo hi lo2 hi2 L H w A n c l) (hs : w.heap.size ≤ w'.heap.size) (hb : ∀ b, (((lo ≤ b ∧ b < hi) ∨ (lo2 ≤ b ∧ b < hi2)) ∨ (L ≤ b ∧ b < H)) → True → w'.heap[b]? = w.heap[b]?) : Orow F lo hi lo2 hi2 L H w' A n c l :=
  ⟨h.1, ⟨Nat.le_trans h.2.1.1 hs, Nat.le_trans h.2.1.2.1 hs, Nat.le_trans h.2.1.2.2 hs⟩, h.2.2.1.cells hs (fun b hf => hb b (.inl (h.1 b hf)) trivial) (fun q hq => hb q (.inr (h.2.2.2 q hq).1) trivial), h.2.2.2⟩
theorem Orow.below (h : Orow F lo hi lo2 hi2 L H w A n c l) (hb : Below w.heap.size w w') : Orow F lo hi lo2 hi2 L H w' A n c l := h.same hb.size fun b hb2 _ => hb.block b (by have h1 := h.2.1; omega)
end
set_option maxRecDepth 100000 in
set_option maxHeartbeats 4000000 in
theorem specRc (s : Int) (xs : List Nf) (lo hi : Nat) (A : Option Addr) (n c : Nat) (m : Int) (zb : List Int) (lo2 hi2 : Nat) (Ab : Option Addr) (nb cb : Nat) (w : World) (h : RR rowNf w lo hi (.slice A n c) xs) (hn : n ≤ 67108864) (hbd : ∀ x ∈ xs, x.Body.length ≤ 67108864) (hb : RR ux.bytes w lo2 hi2 (.slice Ab nb cb) zb) :
    Calls Try.prog 107 #[.agg #[.int .i64 s, .slice A n c], .int .i64 m, .slice Ab nb cb] w (Rr2 (recv ⟨s, xs⟩ m zb) w) := by
  have RW := Lib.hid h
  obtain ⟨hlR, hncR, hcmR⟩ := nf_len h
  have HL := Lib.hid hlR
  have LHR := Lib.hid (show hi ≤ w.heap.size from h.hi_)
  clear hlR h
  have QW := Lib.hid hb
  have LHC := Lib.hid (show hi2 ≤ w.heap.size from hb.hi_)
  have HNB := Lib.hid (ux.rd_of hb).len
  have hcb := (ux.rd_of hb).cap_
  clear hb
  obtain ⟨j0, hj0, hy0, hy1, hy2⟩ := info_parts u8Info
  have HY8 := Lib.hid (And.intro hj0 (And.intro hy0 (And.intro hy1 hy2)))
  clear hj0 hy0 hy1 hy2
  have HN := Lib.hid hn
  have HBD := Lib.hid hbd
  clear hn hbd
  obtain ⟨v, hv⟩ : ∃ v, vr ⟨s, xs⟩ = v := ⟨_, rfl⟩
  have HV := Lib.hid hv
  clear hv
  obtain ⟨d, hd⟩ : ∃ v, sqd s m = v := ⟨_, rfl⟩
  have HD := Lib.hid hd
  clear hd
  obtain ⟨v2, hv2⟩ : ∃ v, decide (0 ≤ d ∧ d ≤ 2047) = v := ⟨_, rfl⟩
  have HV2 := Lib.hid hv2
  clear hv2
  obtain ⟨v3, hv3⟩ : ∃ v, decide (nb ≤ 100) = v := ⟨_, rfl⟩
  have HV3 := Lib.hid hv3
  clear hv3
  obtain ⟨r2, hr2⟩ : ∃ v, recv ⟨s, xs⟩ m zb = v := ⟨_, rfl⟩
  have HR2 := Lib.hid hr2
  clear hr2
  rw [HR2.out]
  go_enter Try.func107, Try.ntmps107
  go_upto_region 1 with fail
  obtain ⟨w0, hW⟩ : ∃ w0, (w.alloc (.cells #[.int .i64 s, .slice A n c] 50)).alloc (.cells #[.int .i64 0, .slice none 0 0] 50) = w0 := ⟨_, rfl⟩
  rw [hW]
  have B0 := Lib.hid (show Below w.heap.size w w0 by rw [← hW]; exact ((Below.refl _ _).alloc (by simp <;> omega) _).alloc (by simp <;> omega) _)
  have X0 := Lib.hid (show Bx 50 w0 (w.heap.size) #[.int .i64 s, .slice A n c] by
      rw [← hW]
      have hh := Bx.made 50 w #[.int .i64 s, .slice A n c]
      exact (hh.below (below_box _ _)))
  have Z0 := Lib.hid (show Bx 50 w0 (w.heap.size + 1) #[.int .i64 0, .slice none 0 0] by
      rw [← hW]
      have hh : Bx 50 ((w.alloc (.cells #[.int .i64 s, .slice A n c] 50)).alloc (.cells #[.int .i64 0, .slice none 0 0] 50)) (w.heap.size + 1) #[.int .i64 0, .slice none 0 0] := by have hh := Bx.made 50 (w.alloc (.cells #[.int .i64 s, .slice A n c] 50)) #[.int .i64 0, .slice none 0 0]; simpa using hh
      exact hh)
  have R0 := Lib.hid (show RR rowNf w0 lo hi (.slice A n c) xs by rw [← hW]; exact ((RW.out.below (below_box _ _)).below (below_box _ _)))
  have Q0 := Lib.hid (show RR ux.bytes w0 lo2 hi2 (.slice Ab nb cb) zb by rw [← hW]; exact ((QW.out.below (below_box _ _)).below (below_box _ _)))
  clear hW
  have LTX := Lib.hid X0.out.lt
  have LTZ := Lib.hid Z0.out.lt
  go_wp2_with (refine stw.list_load rfl 50 _ rfl (w.heap.size) rfl 50 _ X0.out Try.underlying50 rfl ux.szRob ?_)
  (with_reducible refine (specCp s xs lo hi A n c _ R0.out HN.out HBD.out).mono ?_)
  rintro e w1 hp
  obtain ⟨A3, n3, c3, f3, rfl, ho, hb⟩ := ro_parts hp
  clear hp
  have SS1 := Lib.hid hb.size
  have B1 := Lib.hid (B0.out.trans (hb.mono B0.out.size))
  have X1 := Lib.hid (X0.out.below hb)
  have Z1 := Lib.hid (Z0.out.below hb)
  have R1 := Lib.hid (R0.out.below hb)
  have Q1 := Lib.hid (Q0.out.below hb)
  clear hb B0 X0 Z0 R0 Q0
  have C1 := Lib.hid ho.rd
  have M1 := Lib.hid (Rmr.of_oo ho)
  clear ho
  have HCI := Lib.hid (show w.heap.size + 1 < w0.heap.size ∧ w0.heap.size ≤ w1.heap.size by have h1 := Z1.out.lt; have h2 := SS1.out; have h3 := LTZ.out; omega)
  obtain ⟨bc, hbb⟩ : ∃ b, w1.heap.size = b := ⟨_, rfl⟩
  go_upto_region 2 with fail
  generalize hW : w1.alloc (.cells #[.int .i64 s, .slice A3 n3 c3] 50) = w2
  have LD := Lib.hid (show w.heap.size ≤ bc ∧ w.heap.size < bc ∧ w.heap.size + 1 < bc ∧ hi ≤ bc ∧ hi2 ≤ bc ∧ w1.heap.size ≤ bc ∧ w1.heap.size ≤ bc by have h1 := B1.out.size; have h2X := X1.out.lt; have h2Z := Z1.out.lt; have h2R := R1.out.hi_; have h2Q := Q1.out.hi_; have h2C := C1.out.hi_; have h2M := M1.out.hi_; have h3 := hbb; omega)
  have D2 := Lib.hid (show Bx 50 w2 bc #[.int .i64 s, .slice A3 n3 c3] by rw [← hW, ← hbb]; exact Bx.made _ _ _)
  have hb : Below w1.heap.size w1 w2 := by rw [← hW]; exact below_box _ _
  (try rw [hbb])
  clear hW hbb
  have SS2 := Lib.hid hb.size
  have B2 := Lib.hid (B1.out.trans (hb.mono B1.out.size))
  have X2 := Lib.hid (X1.out.below hb)
  have Z2 := Lib.hid (Z1.out.below hb)
  have R2 := Lib.hid (R1.out.below hb)
  have Q2 := Lib.hid (Q1.out.below hb)
  have C2 := Lib.hid (C1.out.below hb)
  have M2 := Lib.hid (M1.out.below hb)
  clear hb B1 X1 Z1 R1 Q1 C1 M1
  have LWD := Lib.hid D2.out.lt
  have cX0 : w2.cell? ⟨w.heap.size, 0, none⟩ = some (.int .i64 s) := X2.out.cell 0
  go_wp2_with fail
  clear cX0
  (with_reducible refine (bs.specSd s m _).mono ?_)
  rw [HD.out]
  rintro e wq ⟨rfl, rfl⟩
  go_wp2_with (refine stw.list_load rfl 50 _ rfl (w.heap.size) rfl 50 _ X2.out Try.underlying50 rfl ux.szRob ?_)
  (with_reducible refine (specVr s xs lo hi A n c _ R2.out).mono ?_)
  rintro e w3 hp
  obtain ⟨rfl, hb⟩ := b_parts HV.out hp
  clear hp
  have SS3 := Lib.hid hb.size
  have B3 := Lib.hid (B2.out.trans (hb.mono B2.out.size))
  have X3 := Lib.hid (X2.out.below hb)
  have Z3 := Lib.hid (Z2.out.below hb)
  have D3 := Lib.hid (D2.out.below hb)
  have R3 := Lib.hid (R2.out.below hb)
  have Q3 := Lib.hid (Q2.out.below hb)
  have C3 := Lib.hid (C2.out.below hb)
  have M3 := Lib.hid (M2.out.below hb)
  clear hb  B2 X2 Z2 D2 R2 Q2 C2 M2
  cases v with
  | true =>
    go_wp2_with fail
    (with_reducible refine (l1R d 0 2047 v2 _ HV2.out).mono ?_)
    rintro e wq ⟨rfl, rfl⟩
    cases v2 with
    | true =>
      cases v3 with
      | true =>
        have h100 : ¬ (100 : Int) < (nb : Int) := by have := of_decide_eq_true HV3.out; omega
        have hd9 := of_decide_eq_true HV2.out
        obtain ⟨dk, rfl⟩ : ∃ k : Nat, d = k := ⟨d.toNat, by omega⟩
        have HDK := Lib.hid (show dk ≤ 2047 by omega)
        clear hd9
        have HMAY := Lib.hid (show (may ⟨s, xs⟩ m && decide (zb.length ≤ 100)) = true by unfold may; rw [HV.out, HD.out, HV2.out, HNB.out, HV3.out]; rfl)
        obtain ⟨hok, hpe⟩ := vr_ok HV.out
        obtain ⟨ws, hws⟩ : ∃ ws, (start ⟨s, xs⟩).ws = ws := ⟨_, rfl⟩
        have HST := Lib.hid (show start ⟨s, xs⟩ = ⟨s, ws, []⟩ by rw [← hws]; rfl)
        rw [hws] at hok hpe
        have HOK := Lib.hid hok
        have HPE := Lib.hid (show pend s ws = xs from hpe)
        clear hok hpe hws
        obtain ⟨FF, hFF⟩ : ∃ F : Nat → Prop, In w0.heap.size w1.heap.size = F := ⟨_, rfl⟩
        have HFI := Lib.hid (show ∀ b, FF b → w0.heap.size ≤ b ∧ b < w1.heap.size by rw [← hFF]; exact fun b hb => hb)
        have HF0 := Lib.hid (show w.heap.size + 1 < w0.heap.size ∧ w0.heap.size ≤ w1.heap.size by have := HCI.out; omega)
        have HBC := Lib.hid (show w1.heap.size ≤ bc by have := LD.out; omega)
        have N3 := Lib.hid (show Nrow FF w0.heap.size w1.heap.size 0 0 w3 A3 n3 c3 (pend s ws) from ⟨fun b hb => .inl (HFI.out b hb), ⟨C3.out.hi_, Nat.zero_le _⟩, by rw [HPE.out, ← hFF]; exact NF.of_rr C3.out (fun b h1 h2 => ⟨h1, h2⟩) M3.out.1⟩)
        clear hFF C3 M3
        obtain ⟨be, hbb⟩ : ∃ b, w3.heap.size = b := ⟨_, rfl⟩
        go_upto_region 6 with fail
        generalize hW : w3.alloc (.cells #[] 22) = w4
        have LE := Lib.hid (show w.heap.size ≤ be ∧ w.heap.size < be ∧ w.heap.size + 1 < be ∧ bc < be ∧ hi ≤ be ∧ hi2 ≤ be ∧ w1.heap.size ≤ be by have h1 := B3.out.size; have h2X := X3.out.lt; have h2Z := Z3.out.lt; have h2D := D3.out.lt; have h2R := R3.out.hi_; have h2Q := Q3.out.hi_; have h2N := N3.out.hi_; have h3 := hbb; omega)
        have E4 := Lib.hid (show Bx 22 w4 be #[] by rw [← hW, ← hbb]; exact Bx.made _ _ _)
        have hb : Below w3.heap.size w3 w4 := by rw [← hW]; exact below_box _ _
        (try rw [hbb])
        clear hW hbb
        have SS4 := Lib.hid hb.size
        have B4 := Lib.hid (B3.out.trans (hb.mono B3.out.size))
        have X4 := Lib.hid (X3.out.below hb)
        have Z4 := Lib.hid (Z3.out.below hb)
        have D4 := Lib.hid (D3.out.below hb)
        have R4 := Lib.hid (R3.out.below hb)
        have Q4 := Lib.hid (Q3.out.below hb)
        have N4 := Lib.hid (N3.out.below hb)
        clear hb B3 X3 Z3 D3 R3 Q3 N3
        have LWE := Lib.hid E4.out.lt
        have O4 := Lib.hid (show Orow FF w0.heap.size w1.heap.size 0 0 be (be + 1) w4 (some ⟨be, 0, none⟩) 0 0 [] from ⟨fun b hb => .inl (HFI.out b hb), ⟨N4.out.hi_.1, Nat.zero_le _, E4.out.lt⟩, OF.of_bx FF E4.out (Nat.le_refl _), fun g hg => by obtain rfl : be = g := (by simpa [blkOf] using hg); exact ⟨⟨Nat.le_refl _, Nat.lt_succ_self _⟩, fun h9 => by have h1 := HFI.out _ h9; have hlD := LD.out; have hlE := LE.out; have hs0 := LTX.out; have hs1 := LTZ.out; have hs2 := LHR.out; have hs3 := LHC.out; have hs4 := SS1.out; have hs5 := HCI.out; have hs6 := SS2.out; have hs7 := LWD.out; have hs8 := SS3.out; have hs9 := HF0.out; have hs10 := HBC.out; have hs11 := SS4.out; have hs12 := LWE.out; omega⟩⟩)
        clear E4
        by_cases h16 : 16 ≤ dk
        · clear O4
          obtain ⟨p, hp⟩ : ∃ p, dk - 15 = p := ⟨_, rfl⟩
          have hge9 : (16 : Int) ≤ (dk : Int) := by omega
          obtain ⟨m2, hm2⟩ : ∃ x, (m - 15) % 4096 = x := ⟨_, rfl⟩
          have HM2 := Lib.hid hm2
          have HMV := Lib.hid (show sqd s m2 = (p : Int) by have h1 := at_sqd (s := s) (n := m) (by rw [HD.out]; omega); rw [HD.out] at h1; have hs9 := HOK.out.s; have hk9 := HDK.out; rw [bs.sqd_in HOK.out.s (by omega), ← hm2, h1]; omega)
          have HMR := Lib.hid (show 0 ≤ m ∧ m ≤ 4095 by have h1 := (bs.sqd_nn (a := s) (b := m) (by rw [HD.out]; omega)).2; exact h1)
          have HP15 := Lib.hid (And.intro hp h16)
          clear hp hm2
          have hw1 : IntKind.i64.wrap (m - 16) = m - 16 := IntWalk.i64_in _ (by have := HMR.out; omega)
          have hw2 : IntKind.i64.wrap (m - 16 + 1) = m - 16 + 1 := IntWalk.i64_in _ (by have := HMR.out; omega)
          obtain ⟨⟨ts, tw, to⟩, hT⟩ : ∃ t, advS ⟨s, ws, []⟩ p = t := ⟨_, rfl⟩
          have HT := Lib.hid hT
          have hT2 := adv_of hT HOK.out.len
          have HTS := Lib.hid hT2.1
          have HTL := Lib.hid hT2.2.1
          have HTO := Lib.hid hT2.2.2.1
          have HTE := Lib.hid hT2.2.2.2
          clear hT hT2 h16
          go_upto_region 7 with fail
          refine reg.region_tailY (Er7 bc) (Ur7 bc #[.int .i64 s, .slice A3 n3 c3]) 10 111 [(9, 44)] [some [], some [], some [(1, 39)], some [(2, 40)], some [(3, 41)], some [(0, 38), (4, 42)], some [(5, 43)], some [(6, 37)], some [(6, 37)], some [(7, 44)], none] [(0, 38), (1, 39), (2, 40), (3, 41), (4, 42), (5, 43), (6, 37), (7, 44), (8, 45)]
            (fun w' => (Below w.heap.size w w' ∧ bc < w'.heap.size) ∧ Bx 50 w' w.heap.size #[.int .i64 s, .slice A n c] ∧ Bx 50 w' (w.heap.size + 1) #[.int .i64 0, .slice none 0 0] ∧ RR rowNf w' lo hi (.slice A n c) xs ∧ RR ux.bytes w' lo2 hi2 (.slice Ab nb cb) zb ∧ Nrow FF w0.heap.size w1.heap.size 0 0 w' A3 n3 c3 (pend s ws))
            (Rr7 FF bc ts (pend ts tw) to [(0, .agg #[.int .i64 s, .slice A3 n3 c3]), (1, .int .i64 m), (2, .int .i64 ((m - 16))), (3, .int .i64 ((m - 16 + 1))), (4, .int .i64 m2)])
            (by kernel_rfl) rfl (by kernel_rfl) (by kernel_rfl) rfl
            (fun i w1 w2 hc he => by unfold Er7 at he; by_cases i9 : i = 9; (rw [if_pos i9] at he; obtain ⟨cs, hp⟩ := he; exact ⟨⟨hp.on hc.1.1 (by have hlD := LD.out; have hlE := LE.out; have hs0 := LTX.out; have hs1 := LTZ.out; have hs2 := LHR.out; have hs3 := LHC.out; have hs4 := SS1.out; have hs5 := HCI.out; have hs6 := SS2.out; have hs7 := LWD.out; have hs8 := SS3.out; have hs9 := HF0.out; have hs10 := HBC.out; have hs11 := SS4.out; have hs12 := LWE.out; omega), by have h1 := hc.1.2; have h2 := hp.below.size; omega⟩, hp.keep hc.2.1 (by have hlD := LD.out; have hlE := LE.out; have hs0 := LTX.out; have hs1 := LTZ.out; have hs2 := LHR.out; have hs3 := LHC.out; have hs4 := SS1.out; have hs5 := HCI.out; have hs6 := SS2.out; have hs7 := LWD.out; have hs8 := SS3.out; have hs9 := HF0.out; have hs10 := HBC.out; have hs11 := SS4.out; have hs12 := LWE.out; omega), hp.keep hc.2.2.1 (by have hlD := LD.out; have hlE := LE.out; have hs0 := LTX.out; have hs1 := LTZ.out; have hs2 := LHR.out; have hs3 := LHC.out; have hs4 := SS1.out; have hs5 := HCI.out; have hs6 := SS2.out; have hs7 := LWD.out; have hs8 := SS3.out; have hs9 := HF0.out; have hs10 := HBC.out; have hs11 := SS4.out; have hs12 := LWE.out; omega), hc.2.2.2.1.same hp.below.size fun b h1 h2 => hp.other b (by have hlD := LD.out; have hlE := LE.out; have hs0 := LTX.out; have hs1 := LTZ.out; have hs2 := LHR.out; have hs3 := LHC.out; have hs4 := SS1.out; have hs5 := HCI.out; have hs6 := SS2.out; have hs7 := LWD.out; have hs8 := SS3.out; have hs9 := HF0.out; have hs10 := HBC.out; have hs11 := SS4.out; have hs12 := LWE.out; omega), hc.2.2.2.2.1.same hp.below.size fun b h1 h2 => hp.other b (by have hlD := LD.out; have hlE := LE.out; have hs0 := LTX.out; have hs1 := LTZ.out; have hs2 := LHR.out; have hs3 := LHC.out; have hs4 := SS1.out; have hs5 := HCI.out; have hs6 := SS2.out; have hs7 := LWD.out; have hs8 := SS3.out; have hs9 := HF0.out; have hs10 := HBC.out; have hs11 := SS4.out; have hs12 := LWE.out; omega), hc.2.2.2.2.2.same hp.below.size fun b h1 h2 => hp.other b (by have hlD := LD.out; have hlE := LE.out; have hs0 := LTX.out; have hs1 := LTZ.out; have hs2 := LHR.out; have hs3 := LHC.out; have hs4 := SS1.out; have hs5 := HCI.out; have hs6 := SS2.out; have hs7 := LWD.out; have hs8 := SS3.out; have hs9 := HF0.out; have hs10 := HBC.out; have hs11 := SS4.out; have hs12 := LWE.out; omega)⟩); (rw [if_neg i9] at he; exact ⟨⟨hc.1.1.trans (he.mono hc.1.1.size), by have h1 := hc.1.2; have h2 := he.size; omega⟩, hc.2.1.below he, hc.2.2.1.below he, hc.2.2.2.1.below he, hc.2.2.2.2.1.below he, hc.2.2.2.2.2.below he⟩))
            (r7_keep (fun b hb => by have h1 := HFI.out b hb; have h2 := HBC.out; omega)) (u7_keep (by kernel_rfl)) ⟨⟨own.below_drew B4.out, D4.out.lt⟩, X4.out.same rfl, Z4.out.same rfl, R4.out.same (Nat.le_refl _) (fun _ _ _ => rfl), Q4.out.same (Nat.le_refl _) (fun _ _ _ => rfl), N4.out.same (Nat.le_refl _) (fun _ _ _ => rfl)⟩ (fun j => .inr (D4.out.same rfl)) (by kernel_rfl) ⟨?_, ?_, ?_, ?_, ?_, ?_, ?_, ?_, ?_, ?_, trivial⟩ ?_
          · refine fun w8 hc hu  K hK => ?_
            (try simp only [Act.put, List.setIfInBounds_toArray, List.set_cons_zero, List.set_cons_succ])
            have hD : Bx 50 w8 bc #[.int .i64 s, .slice A3 n3 c3] := hu.resolve_left (by omega)
            rw [if_pos (by rfl)]
            refine stw.wp_load_bx 50 _ rfl (bc) rfl 50 _ hD Try.underlying50 rfl ux.szRob ?_
            exact hK _ _ rfl (Below.refl _ _)
          · refine fun w8 hc hu  K hK => ?_
            (try simp only [Act.put, List.setIfInBounds_toArray, List.set_cons_zero, List.set_cons_succ])
            go_simp
            exact hK (.int .i64 m) _ rfl (Below.refl _ _)
          · refine fun w8 hc hu v1 h1 K hK => ?_
            obtain rfl : v1 = .int .i64 m := h1
            (try simp only [Act.put, List.setIfInBounds_toArray, List.set_cons_zero, List.set_cons_succ])
            go_simp
            exact hK (.int .i64 ((m - 16))) _ rfl (Below.refl _ _)
          · refine fun w8 hc hu v2 h2 K hK => ?_
            obtain rfl : v2 = .int .i64 ((m - 16)) := h2
            (try simp only [Act.put, List.setIfInBounds_toArray, List.set_cons_zero, List.set_cons_succ])
            go_simp
            exact hK (.int .i64 ((m - 16 + 1))) _ rfl (Below.refl _ _)
          · refine fun w8 hc hu v3 h3 K hK => ?_
            obtain rfl : v3 = .int .i64 ((m - 16 + 1)) := h3
            (try simp only [Act.put, List.setIfInBounds_toArray, List.set_cons_zero, List.set_cons_succ])
            go_simp
            (with_reducible refine (specMod15 m m2 HM2.out _).mono ?_)
            rintro e w3 ⟨rfl, rfl⟩
            exact hK _ _ rfl (Below.refl _ _)
          · refine fun w8 hc hu v0 h0 v4 h4 K hK => ?_
            obtain rfl : v0 = .agg #[.int .i64 s, .slice A3 n3 c3] := h0
            obtain rfl : v4 = .int .i64 m2 := h4
            (try simp only [Act.put, List.setIfInBounds_toArray, List.set_cons_zero, List.set_cons_succ])
            have hql := hc.1.2
            go_simp
            (with_reducible refine (specMvL FF s ws A3 n3 c3 m2 p _ hc.2.2.2.2.2.nf (fun b hb => by have h1 := HFI.out b hb; have h2 := hc.2.2.2.2.2.hi_; omega) HOK.out.s HOK.out.len HMV.out).mono ?_)
            rintro e w3 hp
            rw [HT.out] at hp
            obtain ⟨Ay, ny, cy, Ao, no, co, rfl, hN, hO, hA, hb⟩ := mv_parts hp
            exact hK _ _ ⟨Ay, ny, cy, Ao, no, co, rfl, hN, hO.lower (by omega), hA⟩ hb
          · refine fun w8 hc hu v5 h5 K hK => ?_
            obtain ⟨Ay, ny, cy, Ao, no, co, rfl, hNy, hOy, hAy⟩ : (mvS FF (bc + 1) ts (pend ts tw) to).1 v5 w8 := h5
            (try simp only [Act.put, List.setIfInBounds_toArray, List.set_cons_zero, List.set_cons_succ])
            go_simp
            exact hK _ _ ⟨Ay, ny, cy, Ao, no, co, rfl, hNy, hOy, hAy⟩ (Below.refl _ _)
          · refine fun w8 hc hu v6 h6 K hK => ?_
            obtain ⟨Ay, ny, cy, Ao, no, co, rfl, hNy, hOy, hAy⟩ : (mvS FF (bc + 1) ts (pend ts tw) to).1 v6 w8 := h6
            (try simp only [Act.put, List.setIfInBounds_toArray, List.set_cons_zero, List.set_cons_succ])
            go_simp
            exact hK _ _ ⟨Ay, ny, cy, rfl, hNy⟩ (Below.refl _ _)
          · refine fun w8 hc hu v6 h6 K hK => ?_
            obtain ⟨Ay, ny, cy, Ao, no, co, rfl, hNy, hOy, hAy⟩ : (mvS FF (bc + 1) ts (pend ts tw) to).1 v6 w8 := h6
            (try simp only [Act.put, List.setIfInBounds_toArray, List.set_cons_zero, List.set_cons_succ])
            go_simp
            exact hK _ _ ⟨Ao, no, co, rfl, hOy, hAy⟩ (Below.refl _ _)
          · refine fun w8 hc hu v7 h7 K hK => ?_
            obtain ⟨Ay, ny, cy, rfl, hNy⟩ : (mvA FF ts (pend ts tw)).1 v7 w8 := h7
            (try simp only [Act.put, List.setIfInBounds_toArray, List.set_cons_zero, List.set_cons_succ])
            have hD : Bx 50 w8 bc #[.int .i64 s, .slice A3 n3 c3] := hu.resolve_left (by omega)
            refine stw.step_store rfl 50 _ _ rfl (bc) #[.int .i64 ts, .slice Ay ny cy] rfl rfl 50 _ hD rfl ux.szRob (ux.oneRob _ _ _ _) ?_
            intro wz hz
            exact hK undef _ ⟨Ay, ny, cy, hz.box, hNy.cells hz.below.size fun b hb => hz.other b (by have h1 := HFI.out b hb; have h2 := HBC.out; omega)⟩ ⟨_, hz⟩
          refine fun wc7 hc v0 h0 v1 h1 v2 h2 v3 h3 v4 h4 v5 h5 v6 h6 v7 h7 v8 h8 => ?_
          obtain rfl : v0 = .agg #[.int .i64 s, .slice A3 n3 c3] := h0
          obtain rfl : v1 = .int .i64 m := h1
          obtain rfl : v2 = .int .i64 ((m - 16)) := h2
          obtain rfl : v3 = .int .i64 ((m - 16 + 1)) := h3
          obtain rfl : v4 = .int .i64 m2 := h4
          obtain ⟨Ay, ny, cy, Ao, no, co, rfl, hNy, hOy, hAy⟩ : (mvS FF (bc + 1) ts (pend ts tw) to).1 v5 wc7 := h5
          obtain ⟨Ay, ny, cy, Ao, no, co, rfl, hNy, hOy, hAy⟩ : (mvS FF (bc + 1) ts (pend ts tw) to).1 v6 wc7 := h6
          obtain ⟨Ay, ny, cy, rfl, hNy⟩ : (mvA FF ts (pend ts tw)).1 v7 wc7 := h7
          obtain ⟨Ao, no, co, rfl, hOy, hAy⟩ : (mvO FF (bc + 1) to).1 v8 wc7 := h8
          (try simp only [reg.Obs])
          intro hrf
          have g9 := hrf (9, 44) (by simp) rfl
          clear hrf
          (try simp only [Act.put, List.setIfInBounds_toArray, List.set_cons_zero, List.set_cons_succ])
          simp only [List.drop_succ_cons, List.drop_zero]
          clear hNy
          obtain ⟨Ay, ny, cy, hDn, hNy⟩ : ∃ A n c, Bx 50 wc7 bc #[.int .i64 ts, .slice A n c] ∧ NF FF wc7 A n c (pend ts tw) := g9
          have B5 := Lib.hid hc.1.1
          have X5 := Lib.hid hc.2.1
          have Z5 := Lib.hid hc.2.2.1
          have R5 := Lib.hid hc.2.2.2.1
          have Q5 := Lib.hid hc.2.2.2.2.1
          have NO := Lib.hid hc.2.2.2.2.2
          have D5 := Lib.hid hDn
          have HHW := Lib.hid hc.1.2
          clear hc hDn B4 X4 Z4 R4 Q4 N4 D4
          have HNy := Lib.hid hNy
          have HOy := Lib.hid hOy
          have HAy := Lib.hid hAy
          have N5 := Lib.hid (show Nrow FF w0.heap.size w1.heap.size 0 0 wc7 Ay ny cy (pend ts tw) from ⟨fun b hb => .inl (HFI.out b hb), NO.out.hi_, HNy.out⟩)
          have O5 := Lib.hid (show Orow FF w0.heap.size w1.heap.size 0 0 (bc + 1) wc7.heap.size wc7 Ao no co to from ⟨fun b hb => .inl (HFI.out b hb), ⟨NO.out.hi_.1, NO.out.hi_.2, Nat.le_refl _⟩, HOy.out, fun g hg => ⟨HOy.out.lt hg, HAy.out g hg⟩⟩)
          clear hNy hOy hAy NO HNy HOy HAy
          obtain ⟨j, hjv⟩ : ∃ j, dk - p = j := ⟨_, rfl⟩
          have hj : dk - p = j := hjv
          clear hjv
          have HJ := Lib.hid (show j ≤ 15 ∧ p + j = dk by have h1 := HP15.out; omega)
          have HREC := Lib.hid (show r2 = (buf (runS ⟨ts, kp tw j zb, to⟩), (runS ⟨ts, kp tw j zb, to⟩).out) by rw [← HR2.out]; exact rc_put HMAY.out HST.out HD.out HP15.out.1 hj HT.out)
          have HSTILL := Lib.hid (show ∀ x, tw[j]? = some (some x) → r2 = (⟨ts, pend ts tw⟩, to) from fun x hx => by rw [← HR2.out]; exact rc_still HMAY.out HST.out HD.out HP15.out.1 hj HT.out HOK.out hx)
          have HMJ := Lib.hid (show m = (ts + (j : Int)) % 4096 by have h1 := at_sqd (s := s) (n := m) (by rw [HD.out]; omega); rw [HD.out] at h1; have h2 := HTE.out; have h3 := HJ.out.2; omega)
          have HSJ := Lib.hid (show sqd ts m = (j : Int) by rw [HMJ.out]; exact sqd_at HTS.out (by have := HJ.out; omega))
          clear hj
          clear hge9 hw1 hw2
          obtain ⟨K, hK⟩ : ∃ K, (pend ts (tw.take j)).length = K := ⟨_, rfl⟩
          have hpc := pend_cut (a := tw) HTS.out (by have := HTL.out; omega) j
          rw [hK] at hpc
          have HP := Lib.hid hpc
          clear hpc hK
          have HLN := Lib.hid N5.out.len
          have HN16 := Lib.hid (show ny ≤ 16 by have h1 := pend_len tw ts; have h2 := HLN.out.1; have h3 := HTL.out; omega)
          have HKY := Lib.hid (show K ≤ ny by have h1 := HP.out.2.2.1; have h2 := HLN.out.1; omega)
          have hncn := HLN.out.2
          go_wp2_with fail
          go_loopw [11] (fun v0 wr => ∃ (k : Nat), v0 = .int .i64 ((k : Int)) ∧ (k ≤ K) ∧ Below w.heap.size w wr ∧ Bx 50 wr w.heap.size #[.int .i64 s, .slice A n c] ∧ Bx 50 wr (w.heap.size + 1) #[.int .i64 0, .slice none 0 0] ∧ Bx 50 wr bc #[.int .i64 ts, .slice Ay ny cy] ∧ RR rowNf wr lo hi (.slice A n c) xs ∧ RR ux.bytes wr lo2 hi2 (.slice Ab nb cb) zb ∧ Nrow FF w0.heap.size w1.heap.size 0 0 wr Ay ny cy (pend ts tw) ∧ Orow FF w0.heap.size w1.heap.size 0 0 (bc + 1) wc7.heap.size wr Ao no co to) (fun i _ => K - (intOf i).toNat)
          case atStart => exact ⟨0, rfl, by omega, B5.out, X5.out, Z5.out, D5.out, R5.out, Q5.out, N5.out, O5.out⟩
          case round =>
            obtain ⟨k, rfl, ghk, gB6, gX6, gZ6, gD6, gR6, gQ6, gN6, gO6⟩ := hrel
            have B6 := Lib.hid gB6
            have X6 := Lib.hid gX6
            have Z6 := Lib.hid gZ6
            have D6 := Lib.hid gD6
            have R6 := Lib.hid gR6
            have Q6 := Lib.hid gQ6
            have N6 := Lib.hid gN6
            have O6 := Lib.hid gO6
            have hk := Lib.hid ghk
            clear gB6 gX6 gZ6 gD6 gR6 gQ6 gN6 gO6 ghk
            have LUX6 := Lib.hid X6.out.lt
            have LUZ6 := Lib.hid Z6.out.lt
            have LUD6 := Lib.hid D6.out.lt
            have SBR6 := Lib.hid B6.out.size
            have hk9 := hk.out
            have hkY := HKY.out
            have HKN := Lib.hid (show k ≤ ny by omega)
            by_cases hkK : k < K
            · have hltn : k < ny := by omega
              have hlt : (k : Int) < (ny : Int) := by omega
              obtain ⟨b, off, x, A0, n0, c0, rfl, hFb, hbl, hx, k0, k1, hB⟩ := N6.out.nf.at_ (i := k) hltn
              have HX := Lib.hid hx
              have HFB0 := Lib.hid (And.intro hFb hbl)
              clear hFb hbl hB hx k1
              obtain ⟨e1, he1⟩ : ∃ e, sqd ts x.Seq = e := ⟨_, rfl⟩
              have HE1 := Lib.hid he1
              clear he1
              have g0 : decide ((k : Int) < (ny : Int)) = true := decide_eq_true hlt
              have g0c : decide (k < ny) = true := decide_eq_true hltn
              have hle : e1 < (j : Int) := by have h1 := HP.out.1 k x hkK HX.out; rw [HE1.out] at h1; exact h1
              have g1 : decide (e1 < (j : Int)) = true := decide_eq_true hle
              clear hle
              go_upto_region 9 with fail
              have mD0 : ∀ m : bx.Af wr, m.w.cell? ⟨bc, 0, none⟩ = some (.int .i64 ts) := fun m => (bx.Af.cells D6.out m).cell 0
              have mD1 : ∀ m : bx.Af wr, m.w.cell? ⟨bc, 1, none⟩ = some (.slice (some ⟨b, off, none⟩) ny cy) := fun m => (bx.Af.cells D6.out m).cell 1
              have mk0 := af_cellR k0
              have q1 := Lib.hid (fun m_ => ((bs.specSd ts x.Seq m_.w).mono fun _ _ h => ⟨by rw [h.1, HE1.out], h.2 ▸ Below.refl _ _⟩) : ∀ m_ : bx.Af wr, Calls Try.prog 43 #[.int .i64 ts, .int .i64 x.Seq] m_.w fun e w' => e = .returned (.int .i64 e1) ∧ Below m_.w.heap.size m_.w w')
              have q2 := Lib.hid (fun m_ => ((bs.specSd ts m m_.w).mono fun _ _ h => ⟨by rw [h.1, HSJ.out], h.2 ▸ Below.refl _ _⟩) : ∀ m_ : bx.Af wr, Calls Try.prog 43 #[.int .i64 ts, .int .i64 m] m_.w fun e w' => e = .returned (.int .i64 (j : Int)) ∧ Below m_.w.heap.size m_.w w')
              refine bx.region_after (by kernel_rfl) (by kernel_rfl) ?_
              repeat (go_big_quiet_step (first | (go_at_call 43; with_reducible exact bx.Af.call (q1.out _)) | (go_at_call 43; with_reducible exact bx.Af.call (q2.out _))))
              refine wpQuiet_nil ?_
              intro _ hw'
              obtain ⟨nq9, hw''⟩ := hw'
              subst hw''
              clear mD0 mD1 mk0 q1 q2 g0 g0c g1 k0
              obtain ⟨w7, hw5⟩ : ∃ w5, nq9.w = w5 := ⟨_, rfl⟩
              have hb := nq9.below
              rw [hw5] at hb
              (try rw [hw5])
              clear hw5
              have SS7 := Lib.hid hb.size
              have B7 := Lib.hid (B6.out.trans (hb.mono B6.out.size))
              have X7 := Lib.hid (X6.out.below hb)
              have Z7 := Lib.hid (Z6.out.below hb)
              have D7 := Lib.hid (D6.out.below hb)
              have R7 := Lib.hid (R6.out.below hb)
              have Q7 := Lib.hid (Q6.out.below hb)
              have N7 := Lib.hid (N6.out.below hb)
              have O7 := Lib.hid (O6.out.below hb)
              clear hb nq9 B6 X6 Z6 D6 R6 Q6 N6 O6
              go_wp2_with fail
              go_roundw
              case rel => exact ⟨k + 1, by go_num, by omega, B7.out, X7.out, Z7.out, D7.out, R7.out, Q7.out, N7.out, O7.out⟩
              case measure => simp [intOf]; omega
            · obtain rfl : k = K := by omega
              clear hkK hk9
              by_cases hkn : k < ny
              · have hltn : k < ny := by omega
                have hlt : (k : Int) < (ny : Int) := by omega
                obtain ⟨b, off, x, A0, n0, c0, rfl, hFb, hbl, hx, k0, k1, hB⟩ := N6.out.nf.at_ (i := k) hltn
                have HX := Lib.hid hx
                have HFB0 := Lib.hid (And.intro hFb hbl)
                clear hFb hbl hB hx k1
                obtain ⟨e1, he1⟩ : ∃ e, sqd ts x.Seq = e := ⟨_, rfl⟩
                have HE1 := Lib.hid he1
                clear he1
                have g0 : decide ((k : Int) < (ny : Int)) = true := decide_eq_true hlt
                have g0c : decide (k < ny) = true := decide_eq_true hltn
                have hle : ¬ e1 < (j : Int) := by have h1 := HP.out.2.1 x HX.out; rw [HE1.out] at h1; omega
                have g1 : decide (e1 < (j : Int)) = false := decide_eq_false hle
                clear hle
                go_upto_region 9 with fail
                have mD0 : ∀ m : bx.Af wr, m.w.cell? ⟨bc, 0, none⟩ = some (.int .i64 ts) := fun m => (bx.Af.cells D6.out m).cell 0
                have mD1 : ∀ m : bx.Af wr, m.w.cell? ⟨bc, 1, none⟩ = some (.slice (some ⟨b, off, none⟩) ny cy) := fun m => (bx.Af.cells D6.out m).cell 1
                have mk0 := af_cellR k0
                have q1 := Lib.hid (fun m_ => ((bs.specSd ts x.Seq m_.w).mono fun _ _ h => ⟨by rw [h.1, HE1.out], h.2 ▸ Below.refl _ _⟩) : ∀ m_ : bx.Af wr, Calls Try.prog 43 #[.int .i64 ts, .int .i64 x.Seq] m_.w fun e w' => e = .returned (.int .i64 e1) ∧ Below m_.w.heap.size m_.w w')
                have q2 := Lib.hid (fun m_ => ((bs.specSd ts m m_.w).mono fun _ _ h => ⟨by rw [h.1, HSJ.out], h.2 ▸ Below.refl _ _⟩) : ∀ m_ : bx.Af wr, Calls Try.prog 43 #[.int .i64 ts, .int .i64 m] m_.w fun e w' => e = .returned (.int .i64 (j : Int)) ∧ Below m_.w.heap.size m_.w w')
                refine bx.region_after (by kernel_rfl) (by kernel_rfl) ?_
                repeat (go_big_quiet_step (first | (go_at_call 43; with_reducible exact bx.Af.call (q1.out _)) | (go_at_call 43; with_reducible exact bx.Af.call (q2.out _))))
                refine wpQuiet_nil ?_
                intro _ hw'
                obtain ⟨nq9, hw''⟩ := hw'
                subst hw''
                clear mD0 mD1 mk0 q1 q2 g0 g0c g1
                obtain ⟨w7, hw5⟩ : ∃ w5, nq9.w = w5 := ⟨_, rfl⟩
                have hb := nq9.below
                rw [hw5] at hb
                (try rw [hw5])
                clear hw5
                have k0' : w7.cell? ⟨b, off + k * 2, none⟩ = some (.int .i64 x.Seq) := (hb.cell (World.block_lt_of_cell? _ _ k0)).trans k0
                clear k0
                have k0 := k0'
                clear k0'
                have SS7 := Lib.hid hb.size
                have B7 := Lib.hid (B6.out.trans (hb.mono B6.out.size))
                have X7 := Lib.hid (X6.out.below hb)
                have Z7 := Lib.hid (Z6.out.below hb)
                have D7 := Lib.hid (D6.out.below hb)
                have R7 := Lib.hid (R6.out.below hb)
                have Q7 := Lib.hid (Q6.out.below hb)
                have N7 := Lib.hid (N6.out.below hb)
                have O7 := Lib.hid (O6.out.below hb)
                clear hb nq9 B6 X6 Z6 D6 R6 Q6 N6 O6
                have hpl := place_at (x := x) HTL.out HMJ.out (by rw [← HP.out.2.2.2.2, List.getElem?_drop]; exact HX.out)
                have cD1 : w7.cell? ⟨bc, 1, none⟩ = some (.slice (some ⟨b, off, none⟩) ny cy) := D7.out.cell 1
                rcases hpl with hpl | hpl
                · have HR9 := Lib.hid (HSTILL.out x.Body hpl.2)
                  have g2 : (x.Seq == m) = true := beq_iff_eq.2 hpl.1
                  clear hpl
                  go_upto_region 12 with fail
                  clear cD1 k0 g2
                  go_wp2_with (first | (refine stw.list_load rfl 50 _ rfl (bc) rfl 50 _ D7.out Try.underlying50 rfl ux.szRob ?_) | (refine stw.list_store rfl 50 _ _ rfl (w.heap.size + 1) #[.int .i64 ts, .slice (some ⟨b, off, none⟩) ny cy] rfl rfl 50 _ Z7.out rfl ux.szRob (ux.oneRob _ _ _ _) ?_; intro wz hz))
                  have hB := hz.on B7.out (show w.heap.size ≤ w.heap.size + 1 by omega)
                  have hN := N7.out.same hz.below.size fun b h1 h2 => hz.other b (by have hlD := LD.out; have hlE := LE.out; have hs0 := LTX.out; have hs1 := LTZ.out; have hs2 := LHR.out; have hs3 := LHC.out; have hs4 := SS1.out; have hs5 := HCI.out; have hs6 := SS2.out; have hs7 := LWD.out; have hs8 := SS3.out; have hs9 := HF0.out; have hs10 := HBC.out; have hs11 := SS4.out; have hs12 := LWE.out; have hs13 := HHW.out; have hs14 := LUX6.out; have hs15 := LUZ6.out; have hs16 := LUD6.out; have hs17 := SBR6.out; have hs18 := SS7.out; first | omega | (simp <;> omega))
                  have hO := O7.out.same hz.below.size fun b h1 h2 => hz.other b (by have hlD := LD.out; have hlE := LE.out; have hs0 := LTX.out; have hs1 := LTZ.out; have hs2 := LHR.out; have hs3 := LHC.out; have hs4 := SS1.out; have hs5 := HCI.out; have hs6 := SS2.out; have hs7 := LWD.out; have hs8 := SS3.out; have hs9 := HF0.out; have hs10 := HBC.out; have hs11 := SS4.out; have hs12 := LWE.out; have hs13 := HHW.out; have hs14 := LUX6.out; have hs15 := LUZ6.out; have hs16 := LUD6.out; have hs17 := SBR6.out; have hs18 := SS7.out; first | omega | (simp <;> omega))
                  (try simp only [Exit.inBlock, Exit.then])
                  refine bodyPost_ret (v := .tuple #[.agg #[.int .i64 ts, .slice (some ⟨b, off, none⟩) ny cy], .slice Ao no co]) ?_ rfl ?_
                  · rw [results_cell_tmp1 rfl]
                    exact stw.back2 hz.box Try.underlying50 rfl ux.szRob _
                  · rw [HR9.out]
                    exact ⟨_, _, _, _, _, _, rfl, hN.nf.rrm (fun b hb => by have h1 := hN.fi b hb; have h2 := hN.hi_; have h3 := HF0.out; have hlD := LD.out; have hlE := LE.out; have hs0 := LTX.out; have hs1 := LTZ.out; have hs2 := LHR.out; have hs3 := LHC.out; have hs4 := SS1.out; have hs5 := HCI.out; have hs6 := SS2.out; have hs7 := LWD.out; have hs8 := SS3.out; have hs9 := HF0.out; have hs10 := HBC.out; have hs11 := SS4.out; have hs12 := LWE.out; have hs13 := HHW.out; have hs14 := LUX6.out; have hs15 := LUZ6.out; have hs16 := LUD6.out; have hs17 := SBR6.out; have hs18 := SS7.out; omega), (hO.of_.lower (show w.heap.size ≤ _ by have hlD := LD.out; have hlE := LE.out; have hs0 := LTX.out; have hs1 := LTZ.out; have hs2 := LHR.out; have hs3 := LHC.out; have hs4 := SS1.out; have hs5 := HCI.out; have hs6 := SS2.out; have hs7 := LWD.out; have hs8 := SS3.out; have hs9 := HF0.out; have hs10 := HBC.out; have hs11 := SS4.out; have hs12 := LWE.out; have hs13 := HHW.out; have hs14 := LUX6.out; have hs15 := LUZ6.out; have hs16 := LUD6.out; have hs17 := SBR6.out; have hs18 := SS7.out; omega)).rr (Nat.le_refl _) (fun b hb => by have h1 := hO.fi b hb; have h2 := hO.hi_; have h3 := HF0.out; have hlD := LD.out; have hlE := LE.out; have hs0 := LTX.out; have hs1 := LTZ.out; have hs2 := LHR.out; have hs3 := LHC.out; have hs4 := SS1.out; have hs5 := HCI.out; have hs6 := SS2.out; have hs7 := LWD.out; have hs8 := SS3.out; have hs9 := HF0.out; have hs10 := HBC.out; have hs11 := SS4.out; have hs12 := LWE.out; have hs13 := HHW.out; have hs14 := LUX6.out; have hs15 := LUZ6.out; have hs16 := LUD6.out; have hs17 := SBR6.out; have hs18 := SS7.out; omega) (fun q hq => by have h1 := (hO.blk q hq).1; have h2 := hO.hi_; omega), hB⟩
                · have HW := Lib.hid hpl.2
                  have g2 : (x.Seq == m) = false := beq_false_of_ne hpl.1
                  clear hpl
                  obtain ⟨tk, htk⟩ : ∃ t, kp tw j zb = t := ⟨_, rfl⟩
                  have HINS := Lib.hid (show (pend ts tw).take k ++ [⟨m, zb⟩] ++ (pend ts tw).drop k = pend ts tk by rw [← htk]; exact ins_data HW.out HMJ.out HP.out.2.2.2.1 HP.out.2.2.2.2)
                  have HTKL := Lib.hid (show tk.length = 16 by rw [← htk, kp_len]; exact HTL.out)
                  rw [htk] at HREC
                  clear htk
                  have HL13 := Lib.hid (show bc < w7.heap.size ∧ w.heap.size + 1 < w7.heap.size ∧ w1.heap.size ≤ w7.heap.size ∧ wc7.heap.size ≤ w7.heap.size by have h1 := D7.out.lt; have h2 := Z7.out.lt; have h3 := N7.out.hi_; have h4 := O7.out.hi_; exact ⟨h1, h2, h3.1, h4.2.2⟩)
                  go_upto_region 13 with fail
                  have hbx := bx.below_box w7 (.cells #[] 5)
                  go_upto_region 14 with (first | (at_builtin; refine list_app0 rfl _ _ 22 rfl 5 _ _ .u8 Try.underlying22 HY8.out.1 HY8.out.2.1 HY8.out.2.2.1 (by rw [HY8.out.2.2.2]; omega) rfl rfl rfl (Ow.empty _ _ _) (ux.rd_of (Q7.out.below hbx)) (by omega) (by have h9 := hbx.size; omega) ?_; intro A4 c4 w4 ho4 hb4) | (refine stw.list_store rfl 90 _ _ rfl (w4.heap.size) #[.int .i64 m, .slice A4 nb c4] rfl rfl 90 _ (Bx.made _ _ _) rfl ux.szNf (ux.oneNf _ _ _ _) ?_; intro wz hz))
                  have hb14 := hbx.trans (hb4.mono hbx.size)
                  obtain ⟨bf, hbf⟩ : ∃ b, w4.heap.size = b := ⟨_, rfl⟩
                  have HBFL := Lib.hid (show w7.heap.size ≤ bf by rw [← hbf]; exact hb14.size)
                  have hb := hz.on (hb14.trans ((bx.below_box w4 (.cells #[.int .i64 0, .slice none 0 0] 90)).mono hb14.size)) hb14.size
                  have hro := (ho4.rd.below (bx.below_box w4 (.cells #[.int .i64 0, .slice none 0 0] 90))).same hz.below.size fun b h1 h2 => hz.other b (by omega)
                  have hbb4 : BF (In w7.heap.size bf) wz A4 nb c4 zb := BF.of_rd hro (fun b h1 h2 => ⟨h1, by rw [← hbf]; exact h2⟩)
                  have hvx := hz.box
                  (try rw [hbf] at hvx)
                  (try rw [hbf])
                  have HB4 := Lib.hid hbb4
                  have HV4 := Lib.hid hvx
                  clear hbx ho4 hb4 hb14 hbf hz hro hbb4 hvx
                  have SS8 := Lib.hid hb.size
                  clear cD1 k0 g2
                  have B8 := Lib.hid (B7.out.trans (hb.mono B7.out.size))
                  have X8 := Lib.hid (X7.out.below hb)
                  have Z8 := Lib.hid (Z7.out.below hb)
                  have D8 := Lib.hid (D7.out.below hb)
                  have R8 := Lib.hid (R7.out.below hb)
                  have Q8 := Lib.hid (Q7.out.below hb)
                  have N8 := Lib.hid (N7.out.below hb)
                  have O8 := Lib.hid (O7.out.below hb)
                  clear hb B7 X7 Z7 D7 R7 Q7 N7 O7
                  have V8 := Lib.hid HV4.out
                  have HBV := Lib.hid (show bf < wz.heap.size from V8.out.lt)
                  obtain ⟨F3, hF3⟩ : ∃ F : Nat → Prop, (fun b => FF b ∨ In w7.heap.size bf b) = F := ⟨_, rfl⟩
                  have HFA := Lib.hid (show ∀ b, FF b → F3 b by rw [← hF3]; exact fun b hb => .inl hb)
                  have HFB := Lib.hid (show ∀ b, F3 b → (FF b ∨ (w7.heap.size ≤ b ∧ b < bf)) by rw [← hF3]; exact fun b hb => hb)
                  have hfb : ∀ b, F3 b → b < wz.heap.size := fun b hb => by have h0 := N8.out.hi_; rcases HFB.out b hb with h1 | h1; (have h2 := N8.out.fi b h1; omega); (have hlD := LD.out; have hlE := LE.out; have hs0 := LTX.out; have hs1 := LTZ.out; have hs2 := LHR.out; have hs3 := LHC.out; have hs4 := SS1.out; have hs5 := HCI.out; have hs6 := SS2.out; have hs7 := LWD.out; have hs8 := SS3.out; have hs9 := HF0.out; have hs10 := HBC.out; have hs11 := SS4.out; have hs12 := LWE.out; have hs13 := HHW.out; have hs14 := LUX6.out; have hs15 := LUZ6.out; have hs16 := LUD6.out; have hs17 := SBR6.out; have hs18 := SS7.out; have hs19 := HL13.out; have hs20 := SS8.out; have hs21 := HBFL.out; have hs22 := HBV.out; omega)
                  have N14 := Lib.hid (N8.out.nf.mono HFA.out)
                  have B14 := Lib.hid (HB4.out.mono (G := F3) (by rw [← hF3]; exact fun b hb => .inr hb))
                  have HFC := Lib.hid hfb
                  clear hF3 hfb
                  obtain ⟨A7, hA7, hs7⟩ := nf_pre (k := k) (some ⟨b, off, none⟩) HKN.out HLN.out.2.1
                  obtain ⟨A8, hA8, hs8⟩ := nf_post (k := k) (some ⟨b, off, none⟩) HKN.out HLN.out.2.1
                  have HA7 := Lib.hid hA7
                  have HA8 := Lib.hid hA8
                  have HS7 := Lib.hid hs7
                  have HS8 := Lib.hid hs8
                  clear hA7 hA8 hs7 hs8
                  refine reg.region_tailX (E14 wz.heap.size k) 14 111 [some [], some [], some [(1, 92)], some [], some [(2, 93), (3, 94)], some [(0, 91), (4, 95)], some [], some [(6, 97)], some [(5, 96), (7, 98)], some [], some [(9, 100)], some [], some [(10, 101), (11, 102)], some [(8, 99), (12, 103)], none, none] [(0, 91), (1, 92), (2, 93), (3, 94), (4, 95), (5, 96), (6, 97), (7, 98), (8, 99), (9, 100), (10, 101), (11, 102), (12, 103), (13, 104)]
                    (fun w' => Below wz.heap.size wz w')
                    (R14 F3 wz.heap.size k ny (pend ts tw) (⟨m, zb⟩ : Nf) A4 nb c4 [(1, .pointer (some ⟨bc, 1, none⟩)), (2, .slice (some ⟨b, off, none⟩) ny cy), (3, .int .i64 ((k : Int))), (4, .slice A7 k cy), (6, .agg #[.int .i64 m, .slice A4 nb c4]), (9, .pointer (some ⟨bc, 1, none⟩)), (10, .slice (some ⟨b, off, none⟩) ny cy), (11, .int .i64 ((k : Int))), (12, .slice A8 (ny - k) (cy - k))])
                    (by kernel_rfl) rfl (by kernel_rfl) (by kernel_rfl) rfl
                    (fun i w1 w2 hc he => hc.trans he.1) (r14_keep (by kernel_rfl) HFC.out) (own.below_drew (Below.refl _ _)) (by kernel_rfl) ⟨?_, ?_, ?_, ?_, ?_, ?_, ?_, ?_, ?_, ?_, ?_, ?_, ?_, ?_, trivial⟩ ?_
                  · refine fun w8 hc  K hK => ?_
                    (try simp only [Act.put, List.setIfInBounds_toArray, List.set_cons_zero, List.set_cons_succ])
                    have hge : wz.heap.size ≤ w8.heap.size := hc.size
                    go_simp
                    exact hK (.slice (some ⟨w8.heap.size, 0, none⟩) 0 0) _ (GF.empty F3 (Bx.made _ _ _) hge) (Gr.of_below (bx.below_box _ _) hge)
                  · refine fun w8 hc  K hK => ?_
                    (try simp only [Act.put, List.setIfInBounds_toArray, List.set_cons_zero, List.set_cons_succ])
                    go_simp
                    exact hK (.pointer (some ⟨bc, 1, none⟩)) _ rfl (Gr.refl _)
                  · refine fun w8 hc v1 h1 K hK => ?_
                    obtain rfl : v1 = .pointer (some ⟨bc, 1, none⟩) := h1
                    (try simp only [Act.put, List.setIfInBounds_toArray, List.set_cons_zero, List.set_cons_succ])
                    have c0 : w8.cell? ⟨bc, 1, none⟩ = some (.slice (some ⟨b, off, none⟩) ny cy) := (D8.out.below hc).cell 1
                    go_simp
                    exact hK (.slice (some ⟨b, off, none⟩) ny cy) _ rfl (Gr.refl _)
                  · refine fun w8 hc  K hK => ?_
                    (try simp only [Act.put, List.setIfInBounds_toArray, List.set_cons_zero, List.set_cons_succ])
                    go_simp
                    exact hK (.int .i64 ((k : Int))) _ rfl (Gr.refl _)
                  · refine fun w8 hc v2 h2 v3 h3 K hK => ?_
                    obtain rfl : v2 = .slice (some ⟨b, off, none⟩) ny cy := h2
                    obtain rfl : v3 = .int .i64 ((k : Int)) := h3
                    (try simp only [Act.put, List.setIfInBounds_toArray, List.set_cons_zero, List.set_cons_succ])
                    have hs7 := HS7.out
                    go_simp
                    exact hK (.slice A7 k cy) _ rfl (Gr.refl _)
                  · refine fun w8 hc v0 h0 v4 h4 K hK => ?_
                    have j0 : GF F3 wz.heap.size w8 0 [] v0 := h0
                    clear h0
                    obtain ⟨Ax0, cx0, rfl, j0⟩ := GF.open_ j0
                    obtain rfl : v4 = .slice A7 k cy := h4
                    (try simp only [Act.put, List.setIfInBounds_toArray, List.set_cons_zero, List.set_cons_succ])
                    have hge : wz.heap.size ≤ w8.heap.size := hc.size
                    rw [if_pos (by rfl)]
                    refine wp_gf _ _ rfl rfl rfl j0 HFC.out hge ((N14.out.below hc).take HKN.out HA7.out).src (by have h9 := HKN.out; have h8 := HN16.out; omega) ?_
                    intro A5 c5 w5 hg hgr
                    rw [Nat.zero_add] at hg ⊢
                    exact hK _ _ hg hgr
                  · refine fun w8 hc  K hK => ?_
                    (try simp only [Act.put, List.setIfInBounds_toArray, List.set_cons_zero, List.set_cons_succ])
                    rw [if_pos (by rfl)]
                    refine stw.wp_load_bx 90 _ rfl bf rfl 90 _ (V8.out.below hc) Try.underlying90 rfl ux.szNf ?_
                    exact hK _ _ rfl (Gr.refl _)
                  · refine fun w8 hc v6 h6 K hK => ?_
                    obtain rfl : v6 = .agg #[.int .i64 m, .slice A4 nb c4] := h6
                    (try simp only [Act.put, List.setIfInBounds_toArray, List.set_cons_zero, List.set_cons_succ])
                    have hge : wz.heap.size ≤ w8.heap.size := hc.size
                    go_simp
                    exact hK (.slice (some ⟨w8.heap.size, 0, none⟩) 1 1) _ ⟨_, rfl, Bx.made _ _ _⟩ (Gr.of_below (bx.below_box _ _) hge)
                  · refine fun w8 hc v5 h5 v7 h7 K hK => ?_
                    have j5 : GF F3 wz.heap.size w8 k ((pend ts tw).take k) v5 := h5
                    clear h5
                    obtain ⟨Ax5, cx5, rfl, j5⟩ := GF.open_ j5
                    obtain ⟨q7, rfl, h7⟩ : ∃ q, v7 = .slice (some ⟨q, 0, none⟩) 1 1 ∧ Bx 90 w8 q #[.int .i64 m, .slice A4 nb c4] := h7
                    (try simp only [Act.put, List.setIfInBounds_toArray, List.set_cons_zero, List.set_cons_succ])
                    have hge : wz.heap.size ≤ w8.heap.size := hc.size
                    rw [if_pos (by rfl)]
                    refine wp_gf _ _ rfl rfl rfl j5 HFC.out hge (src_one (x := (⟨m, zb⟩ : Nf)) h7 (B14.out.below hc)) (by have h9 := HKN.out; have h8 := HN16.out; omega) ?_
                    intro A5 c5 w5 hg hgr
                    exact hK _ _ hg hgr
                  · refine fun w8 hc  K hK => ?_
                    (try simp only [Act.put, List.setIfInBounds_toArray, List.set_cons_zero, List.set_cons_succ])
                    go_simp
                    exact hK (.pointer (some ⟨bc, 1, none⟩)) _ rfl (Gr.refl _)
                  · refine fun w8 hc v9 h9 K hK => ?_
                    obtain rfl : v9 = .pointer (some ⟨bc, 1, none⟩) := h9
                    (try simp only [Act.put, List.setIfInBounds_toArray, List.set_cons_zero, List.set_cons_succ])
                    have c0 : w8.cell? ⟨bc, 1, none⟩ = some (.slice (some ⟨b, off, none⟩) ny cy) := (D8.out.below hc).cell 1
                    go_simp
                    exact hK (.slice (some ⟨b, off, none⟩) ny cy) _ rfl (Gr.refl _)
                  · refine fun w8 hc  K hK => ?_
                    (try simp only [Act.put, List.setIfInBounds_toArray, List.set_cons_zero, List.set_cons_succ])
                    go_simp
                    exact hK (.int .i64 ((k : Int))) _ rfl (Gr.refl _)
                  · refine fun w8 hc v10 h10 v11 h11 K hK => ?_
                    obtain rfl : v10 = .slice (some ⟨b, off, none⟩) ny cy := h10
                    obtain rfl : v11 = .int .i64 ((k : Int)) := h11
                    (try simp only [Act.put, List.setIfInBounds_toArray, List.set_cons_zero, List.set_cons_succ])
                    have hs8 := HS8.out
                    go_simp
                    exact hK (.slice A8 (ny - k) (cy - k)) _ rfl (Gr.refl _)
                  · refine fun w8 hc v8 h8 v12 h12 K hK => ?_
                    have j8 : GF F3 wz.heap.size w8 (k + 1) ((pend ts tw).take k ++ [(⟨m, zb⟩ : Nf)]) v8 := h8
                    clear h8
                    obtain ⟨Ax8, cx8, rfl, j8⟩ := GF.open_ j8
                    obtain rfl : v12 = .slice A8 (ny - k) (cy - k) := h12
                    (try simp only [Act.put, List.setIfInBounds_toArray, List.set_cons_zero, List.set_cons_succ])
                    have hge : wz.heap.size ≤ w8.heap.size := hc.size
                    rw [if_pos (by rfl)]
                    refine wp_gf _ _ rfl rfl rfl j8 HFC.out hge ((N14.out.below hc).drop HKN.out HA8.out).src (by have h9 := HKN.out; have h8 := HN16.out; omega) ?_
                    intro A5 c5 w5 hg hgr
                    rw [show k + 1 + (ny - k) = ny + 1 by have h9 := HKN.out; omega] at hg ⊢
                    exact hK _ _ hg hgr
                  refine fun wx9 hc v0 h0 v1 h1 v2 h2 v3 h3 v4 h4 v5 h5 v6 h6 v7 h7 v8 h8 v9 h9 v10 h10 v11 h11 v12 h12 v13 h13 => ?_
                  have j0 : GF F3 wz.heap.size wx9 0 [] v0 := h0
                  clear h0
                  obtain ⟨Ax0, cx0, rfl, j0⟩ := GF.open_ j0
                  obtain rfl : v1 = .pointer (some ⟨bc, 1, none⟩) := h1
                  obtain rfl : v2 = .slice (some ⟨b, off, none⟩) ny cy := h2
                  obtain rfl : v3 = .int .i64 ((k : Int)) := h3
                  obtain rfl : v4 = .slice A7 k cy := h4
                  have j5 : GF F3 wz.heap.size wx9 k ((pend ts tw).take k) v5 := h5
                  clear h5
                  obtain ⟨Ax5, cx5, rfl, j5⟩ := GF.open_ j5
                  obtain rfl : v6 = .agg #[.int .i64 m, .slice A4 nb c4] := h6
                  obtain ⟨q7, rfl, h7⟩ : ∃ q, v7 = .slice (some ⟨q, 0, none⟩) 1 1 ∧ Bx 90 wx9 q #[.int .i64 m, .slice A4 nb c4] := h7
                  have j8 : GF F3 wz.heap.size wx9 (k + 1) ((pend ts tw).take k ++ [(⟨m, zb⟩ : Nf)]) v8 := h8
                  clear h8
                  obtain ⟨Ax8, cx8, rfl, j8⟩ := GF.open_ j8
                  obtain rfl : v9 = .pointer (some ⟨bc, 1, none⟩) := h9
                  obtain rfl : v10 = .slice (some ⟨b, off, none⟩) ny cy := h10
                  obtain rfl : v11 = .int .i64 ((k : Int)) := h11
                  obtain rfl : v12 = .slice A8 (ny - k) (cy - k) := h12
                  have j13 : GF F3 wz.heap.size wx9 (ny + 1) ((pend ts tw).take k ++ [(⟨m, zb⟩ : Nf)] ++ (pend ts tw).drop k) v13 := h13
                  clear h13
                  obtain ⟨Ax13, cx13, rfl, j13⟩ := GF.open_ j13
                  (try simp only [reg.Obs])
                  (try simp only [Act.put, List.setIfInBounds_toArray, List.set_cons_zero, List.set_cons_succ])
                  simp only [List.drop_succ_cons, List.drop_zero]
                  have HG13 := Lib.hid j13
                  clear j0 j5 h7 j8 j13
                  have hb := hc
                  clear hc
                  have SS9 := Lib.hid hb.size
                  have B9 := Lib.hid (B8.out.trans (hb.mono B8.out.size))
                  have X9 := Lib.hid (X8.out.below hb)
                  have Z9 := Lib.hid (Z8.out.below hb)
                  have D9 := Lib.hid (D8.out.below hb)
                  have V9 := Lib.hid (V8.out.below hb)
                  have R9 := Lib.hid (R8.out.below hb)
                  have Q9 := Lib.hid (Q8.out.below hb)
                  have O9 := Lib.hid (O8.out.below hb)
                  clear hb B8 X8 Z8 D8 V8 R8 Q8 O8
                  have HG9 := Lib.hid (show wz.heap.size ≤ wx9.heap.size from SS9.out)
                  obtain ⟨F5, hF5⟩ : ∃ F : Nat → Prop, (fun b => F3 b ∨ In wz.heap.size wx9.heap.size b) = F := ⟨_, rfl⟩
                  have HF5 := Lib.hid (show ∀ b, F5 b → (FF b ∨ (w7.heap.size ≤ b ∧ b < wx9.heap.size)) by rw [← hF5]; exact fun b hb => by rcases hb with h1 | h1; (rcases HFB.out b h1 with h2 | h2; exact .inl h2; exact .inr (by have hlD := LD.out; have hlE := LE.out; have hs0 := LTX.out; have hs1 := LTZ.out; have hs2 := LHR.out; have hs3 := LHC.out; have hs4 := SS1.out; have hs5 := HCI.out; have hs6 := SS2.out; have hs7 := LWD.out; have hs8 := SS3.out; have hs9 := HF0.out; have hs10 := HBC.out; have hs11 := SS4.out; have hs12 := LWE.out; have hs13 := HHW.out; have hs14 := LUX6.out; have hs15 := LUZ6.out; have hs16 := LUD6.out; have hs17 := SBR6.out; have hs18 := SS7.out; have hs19 := HL13.out; have hs20 := SS8.out; have hs21 := HBFL.out; have hs22 := HBV.out; have hs23 := SS9.out; constructor <;> omega)); exact .inr (by have h2 := h1.1; have h3 := h1.2; have hlD := LD.out; have hlE := LE.out; have hs0 := LTX.out; have hs1 := LTZ.out; have hs2 := LHR.out; have hs3 := LHC.out; have hs4 := SS1.out; have hs5 := HCI.out; have hs6 := SS2.out; have hs7 := LWD.out; have hs8 := SS3.out; have hs9 := HF0.out; have hs10 := HBC.out; have hs11 := SS4.out; have hs12 := LWE.out; have hs13 := HHW.out; have hs14 := LUX6.out; have hs15 := LUZ6.out; have hs16 := LUD6.out; have hs17 := SBR6.out; have hs18 := SS7.out; have hs19 := HL13.out; have hs20 := SS8.out; have hs21 := HBFL.out; have hs22 := HBV.out; have hs23 := SS9.out; constructor <;> omega))
                  have hgb := HG13.out.blk
                  have N9 := Lib.hid (show Nrow F5 w0.heap.size w1.heap.size w7.heap.size wx9.heap.size wx9 Ax13 (ny + 1) cx13 (pend ts tk) from ⟨fun b hb => (HF5.out b hb).elim (fun h1 => .inl (by have h2 := O9.out.fi b h1; omega)) .inr, ⟨by have h1 := O9.out.hi_; omega, Nat.le_refl _⟩, by rw [← HINS.out]; exact HG13.out.nf (fun b hb => by rw [← hF5]; exact .inl hb) (fun g hg => by rw [← hF5]; exact .inr (hgb.1 g hg)) hgb.2.1 HFC.out⟩)
                  have P9 := Lib.hid (show Orow F5 w0.heap.size w1.heap.size w7.heap.size wx9.heap.size (bc + 1) wc7.heap.size wx9 Ao no co to from ⟨N9.out.fi, ⟨N9.out.hi_.1, N9.out.hi_.2, O9.out.hi_.2.2⟩, O9.out.of_.mono (fun b hb => by rw [← hF5]; exact .inl (HFA.out b hb)), fun g hg => ⟨(O9.out.blk g hg).1, fun h9 => by have h1 := O9.out.blk g hg; rcases HF5.out g h9 with h2 | h2; exact h1.2 h2; (have h3 := h1.1; have hlD := LD.out; have hlE := LE.out; have hs0 := LTX.out; have hs1 := LTZ.out; have hs2 := LHR.out; have hs3 := LHC.out; have hs4 := SS1.out; have hs5 := HCI.out; have hs6 := SS2.out; have hs7 := LWD.out; have hs8 := SS3.out; have hs9 := HF0.out; have hs10 := HBC.out; have hs11 := SS4.out; have hs12 := LWE.out; have hs13 := HHW.out; have hs14 := LUX6.out; have hs15 := LUZ6.out; have hs16 := LUD6.out; have hs17 := SBR6.out; have hs18 := SS7.out; have hs19 := HL13.out; have hs20 := SS8.out; have hs21 := HBFL.out; have hs22 := HBV.out; have hs23 := SS9.out; omega)⟩⟩)
                  clear hgb hF5 O9
                  have cD1 : wx9.cell? ⟨bc, 1, none⟩ = some (.slice (some ⟨b, off, none⟩) ny cy) := D9.out.cell 1
                  have fD1 : wx9.frozen? ⟨bc, 1, none⟩ = false := D9.out.free 1
                  go_upto_region 15 with fail
                  clear cD1 fD1
                  have hWW : (wx9.setCell ⟨bc, 1, none⟩ (.slice Ax13 (ny + 1) cx13)) = (wx9.setCell ⟨bc, 1, none⟩ (.slice Ax13 (ny + 1) cx13)) := rfl
                  obtain ⟨w10, hW⟩ : ∃ wy, (wx9.setCell ⟨bc, 1, none⟩ (.slice Ax13 (ny + 1) cx13)) = wy := ⟨_, rfl⟩
                  rw [hW]
                  clear hWW
                  have B10 := Lib.hid (show Below w.heap.size w w10 by rw [← hW]; exact (B9.out.setCell (p := ⟨bc, 1, none⟩) (by have hlD := LD.out; have hlE := LE.out; have hs0 := LTX.out; have hs1 := LTZ.out; have hs2 := LHR.out; have hs3 := LHC.out; have hs4 := SS1.out; have hs5 := HCI.out; have hs6 := SS2.out; have hs7 := LWD.out; have hs8 := SS3.out; have hs9 := HF0.out; have hs10 := HBC.out; have hs11 := SS4.out; have hs12 := LWE.out; have hs13 := HHW.out; have hs14 := LUX6.out; have hs15 := LUZ6.out; have hs16 := LUD6.out; have hs17 := SBR6.out; have hs18 := SS7.out; have hs19 := HL13.out; have hs20 := SS8.out; have hs21 := HBFL.out; have hs22 := HBV.out; have hs23 := SS9.out; first | omega | (simp <;> omega)) _))
                  have X10 := Lib.hid (show Bx 50 w10 (w.heap.size) #[.int .i64 s, .slice A n c] by rw [← hW]; exact (X9.out.other (by have hlD := LD.out; have hlE := LE.out; have hs0 := LTX.out; have hs1 := LTZ.out; have hs2 := LHR.out; have hs3 := LHC.out; have hs4 := SS1.out; have hs5 := HCI.out; have hs6 := SS2.out; have hs7 := LWD.out; have hs8 := SS3.out; have hs9 := HF0.out; have hs10 := HBC.out; have hs11 := SS4.out; have hs12 := LWE.out; have hs13 := HHW.out; have hs14 := LUX6.out; have hs15 := LUZ6.out; have hs16 := LUD6.out; have hs17 := SBR6.out; have hs18 := SS7.out; have hs19 := HL13.out; have hs20 := SS8.out; have hs21 := HBFL.out; have hs22 := HBV.out; have hs23 := SS9.out; first | omega | (simp <;> omega)) _ _))
                  have Z10 := Lib.hid (show Bx 50 w10 (w.heap.size + 1) #[.int .i64 0, .slice none 0 0] by rw [← hW]; exact (Z9.out.other (by have hlD := LD.out; have hlE := LE.out; have hs0 := LTX.out; have hs1 := LTZ.out; have hs2 := LHR.out; have hs3 := LHC.out; have hs4 := SS1.out; have hs5 := HCI.out; have hs6 := SS2.out; have hs7 := LWD.out; have hs8 := SS3.out; have hs9 := HF0.out; have hs10 := HBC.out; have hs11 := SS4.out; have hs12 := LWE.out; have hs13 := HHW.out; have hs14 := LUX6.out; have hs15 := LUZ6.out; have hs16 := LUD6.out; have hs17 := SBR6.out; have hs18 := SS7.out; have hs19 := HL13.out; have hs20 := SS8.out; have hs21 := HBFL.out; have hs22 := HBV.out; have hs23 := SS9.out; first | omega | (simp <;> omega)) _ _))
                  have D10 := Lib.hid (show Bx 50 w10 (bc) #[.int .i64 ts, .slice Ax13 (ny + 1) cx13] by rw [← hW]; exact (D9.out.set 1 _))
                  have V10 := Lib.hid (show Bx 90 w10 (bf) #[.int .i64 m, .slice A4 nb c4] by rw [← hW]; exact (V9.out.other (by have hlD := LD.out; have hlE := LE.out; have hs0 := LTX.out; have hs1 := LTZ.out; have hs2 := LHR.out; have hs3 := LHC.out; have hs4 := SS1.out; have hs5 := HCI.out; have hs6 := SS2.out; have hs7 := LWD.out; have hs8 := SS3.out; have hs9 := HF0.out; have hs10 := HBC.out; have hs11 := SS4.out; have hs12 := LWE.out; have hs13 := HHW.out; have hs14 := LUX6.out; have hs15 := LUZ6.out; have hs16 := LUD6.out; have hs17 := SBR6.out; have hs18 := SS7.out; have hs19 := HL13.out; have hs20 := SS8.out; have hs21 := HBFL.out; have hs22 := HBV.out; have hs23 := SS9.out; first | omega | (simp <;> omega)) _ _))
                  have R10 := Lib.hid (show RR rowNf w10 lo hi (.slice A n c) xs by rw [← hW]; exact (R9.out.same (by simp [World.setCell]) fun b h1 h2 => by rw [Below.heap_setCell _ _ _ _ (by have hlD := LD.out; have hlE := LE.out; have hs0 := LTX.out; have hs1 := LTZ.out; have hs2 := LHR.out; have hs3 := LHC.out; have hs4 := SS1.out; have hs5 := HCI.out; have hs6 := SS2.out; have hs7 := LWD.out; have hs8 := SS3.out; have hs9 := HF0.out; have hs10 := HBC.out; have hs11 := SS4.out; have hs12 := LWE.out; have hs13 := HHW.out; have hs14 := LUX6.out; have hs15 := LUZ6.out; have hs16 := LUD6.out; have hs17 := SBR6.out; have hs18 := SS7.out; have hs19 := HL13.out; have hs20 := SS8.out; have hs21 := HBFL.out; have hs22 := HBV.out; have hs23 := SS9.out; first | omega | (simp <;> omega))]))
                  have Q10 := Lib.hid (show RR ux.bytes w10 lo2 hi2 (.slice Ab nb cb) zb by rw [← hW]; exact (Q9.out.same (by simp [World.setCell]) fun b h1 h2 => by rw [Below.heap_setCell _ _ _ _ (by have hlD := LD.out; have hlE := LE.out; have hs0 := LTX.out; have hs1 := LTZ.out; have hs2 := LHR.out; have hs3 := LHC.out; have hs4 := SS1.out; have hs5 := HCI.out; have hs6 := SS2.out; have hs7 := LWD.out; have hs8 := SS3.out; have hs9 := HF0.out; have hs10 := HBC.out; have hs11 := SS4.out; have hs12 := LWE.out; have hs13 := HHW.out; have hs14 := LUX6.out; have hs15 := LUZ6.out; have hs16 := LUD6.out; have hs17 := SBR6.out; have hs18 := SS7.out; have hs19 := HL13.out; have hs20 := SS8.out; have hs21 := HBFL.out; have hs22 := HBV.out; have hs23 := SS9.out; first | omega | (simp <;> omega))]))
                  have N10 := Lib.hid (show Nrow F5 w0.heap.size w1.heap.size w7.heap.size wx9.heap.size w10 Ax13 (ny + 1) cx13 (pend ts tk) by rw [← hW]; exact (N9.out.same (by simp [World.setCell]) fun b h1 h2 => by rw [Below.heap_setCell _ _ _ _ (by have hlD := LD.out; have hlE := LE.out; have hs0 := LTX.out; have hs1 := LTZ.out; have hs2 := LHR.out; have hs3 := LHC.out; have hs4 := SS1.out; have hs5 := HCI.out; have hs6 := SS2.out; have hs7 := LWD.out; have hs8 := SS3.out; have hs9 := HF0.out; have hs10 := HBC.out; have hs11 := SS4.out; have hs12 := LWE.out; have hs13 := HHW.out; have hs14 := LUX6.out; have hs15 := LUZ6.out; have hs16 := LUD6.out; have hs17 := SBR6.out; have hs18 := SS7.out; have hs19 := HL13.out; have hs20 := SS8.out; have hs21 := HBFL.out; have hs22 := HBV.out; have hs23 := SS9.out; first | omega | (simp <;> omega))]))
                  have P10 := Lib.hid (show Orow F5 w0.heap.size w1.heap.size w7.heap.size wx9.heap.size (bc + 1) wc7.heap.size w10 Ao no co to by rw [← hW]; exact (P9.out.same (by simp [World.setCell]) fun b h1 h2 => by rw [Below.heap_setCell _ _ _ _ (by have hlD := LD.out; have hlE := LE.out; have hs0 := LTX.out; have hs1 := LTZ.out; have hs2 := LHR.out; have hs3 := LHC.out; have hs4 := SS1.out; have hs5 := HCI.out; have hs6 := SS2.out; have hs7 := LWD.out; have hs8 := SS3.out; have hs9 := HF0.out; have hs10 := HBC.out; have hs11 := SS4.out; have hs12 := LWE.out; have hs13 := HHW.out; have hs14 := LUX6.out; have hs15 := LUZ6.out; have hs16 := LUD6.out; have hs17 := SBR6.out; have hs18 := SS7.out; have hs19 := HL13.out; have hs20 := SS8.out; have hs21 := HBFL.out; have hs22 := HBV.out; have hs23 := SS9.out; first | omega | (simp <;> omega))]))
                  clear hW B9 X9 Z9 D9 V9 R9 Q9 N9 P9
                  have cD0 : w10.cell? ⟨bc, 0, none⟩ = some (.int .i64 ts) := D10.out.cell 0
                  have cD1 : w10.cell? ⟨bc, 1, none⟩ = some (.slice Ax13 (ny + 1) cx13) := D10.out.cell 1
                  go_wp2_with (refine stw.list_load rfl 50 _ rfl (bc) rfl 50 _ D10.out Try.underlying50 rfl ux.szRob ?_)
                  clear cD0 cD1
                  (with_reducible refine (specRel F5 ⟨ts, tk, to⟩ (bc + 1) Ax13 (ny + 1) cx13 Ao no co _ N10.out.nf P10.out.of_ (fun g hg => (P10.out.blk g hg).2) (fun b hb => by have h1 := N10.out.fi b hb; have h2 := N10.out.hi_; omega) HTS.out HTKL.out (by have h1 := P10.out.of_.len; have h2 := HTO.out; omega) (by have h1 := P10.out.hi_; have hlD := LD.out; have hlE := LE.out; have hs0 := LTX.out; have hs1 := LTZ.out; have hs2 := LHR.out; have hs3 := LHC.out; have hs4 := SS1.out; have hs5 := HCI.out; have hs6 := SS2.out; have hs7 := LWD.out; have hs8 := SS3.out; have hs9 := HF0.out; have hs10 := HBC.out; have hs11 := SS4.out; have hs12 := LWE.out; have hs13 := HHW.out; have hs14 := LUX6.out; have hs15 := LUZ6.out; have hs16 := LUD6.out; have hs17 := SBR6.out; have hs18 := SS7.out; have hs19 := HL13.out; have hs20 := SS8.out; have hs21 := HBFL.out; have hs22 := HBV.out; have hs23 := SS9.out; omega)).mono ?_)
                  rintro e wr5 hp
                  obtain ⟨A5, n5, c5, A6, n6, c6, rfl, hN, hO, hA, hK⟩ := rl_parts hp
                  clear hp
                  have HBK := Lib.hid (show ∀ q, q ∈ ux.blks Ao → (bc + 1) ≤ q ∧ q < wc7.heap.size from fun q hq => (P10.out.blk q (in_blk hq)).1)
                  have SSR := Lib.hid hK.size
                  have BR := Lib.hid (B10.out.trans (ux.ks_bel hK (fun q hq => by have h1 := HBK.out q hq; have hlD := LD.out; have hlE := LE.out; have hs0 := LTX.out; have hs1 := LTZ.out; have hs2 := LHR.out; have hs3 := LHC.out; have hs4 := SS1.out; have hs5 := HCI.out; have hs6 := SS2.out; have hs7 := LWD.out; have hs8 := SS3.out; have hs9 := HF0.out; have hs10 := HBC.out; have hs11 := SS4.out; have hs12 := LWE.out; have hs13 := HHW.out; have hs14 := LUX6.out; have hs15 := LUZ6.out; have hs16 := LUD6.out; have hs17 := SBR6.out; have hs18 := SS7.out; have hs19 := HL13.out; have hs20 := SS8.out; have hs21 := HBFL.out; have hs22 := HBV.out; have hs23 := SS9.out; omega) B10.out.size))
                  have ZR := Lib.hid (ux.bx_ks Z10.out hK (fun hm => by have h1 := HBK.out _ hm; have hlD := LD.out; have hlE := LE.out; have hs0 := LTX.out; have hs1 := LTZ.out; have hs2 := LHR.out; have hs3 := LHC.out; have hs4 := SS1.out; have hs5 := HCI.out; have hs6 := SS2.out; have hs7 := LWD.out; have hs8 := SS3.out; have hs9 := HF0.out; have hs10 := HBC.out; have hs11 := SS4.out; have hs12 := LWE.out; have hs13 := HHW.out; have hs14 := LUX6.out; have hs15 := LUZ6.out; have hs16 := LUD6.out; have hs17 := SBR6.out; have hs18 := SS7.out; have hs19 := HL13.out; have hs20 := SS8.out; have hs21 := HBFL.out; have hs22 := HBV.out; have hs23 := SS9.out; omega))
                  have HFI5 := Lib.hid (show ∀ b, F5 b → (w0.heap.size ≤ b ∧ b < w1.heap.size) ∨ (w7.heap.size ≤ b ∧ b < wr5.heap.size) from fun b hb => by have h1 := N10.out.fi b hb; have h2 := N10.out.hi_; have h3 := hK.size; omega)
                  have HFS5 := Lib.hid (show w1.heap.size ≤ wr5.heap.size by have h2 := N10.out.hi_; have h3 := hK.size; omega)
                  have NR := Lib.hid hN
                  have OR := Lib.hid hO
                  clear hN hO hA hK
                  obtain ⟨r5, hr5⟩ : ∃ r, runS (⟨ts, tk, to⟩ : St) = r := ⟨_, rfl⟩
                  have HR5 := Lib.hid hr5
                  rw [hr5] at NR OR ⊢
                  clear hr5
                  go_wp2_with (refine stw.list_store rfl 50 _ _ rfl (w.heap.size + 1) #[.int .i64 r5.s, .slice A5 n5 c5] rfl rfl 50 _ ZR.out rfl ux.szRob (ux.oneRob _ _ _ _) ?_; intro wz9 hz)
                  have hB := hz.on BR.out (show w.heap.size ≤ w.heap.size + 1 by omega)
                  have HKZ := Lib.hid (show KS [w.heap.size + 1] wr5 wz9 from ⟨hz.below.os, hz.below.tape, hz.below.output, hz.below.size, fun q h1 h2 => hz.other q (fun e => h2 (List.mem_singleton.2 e))⟩)
                  have hN := NR.out.ks HKZ.out (fun q hq hm => by have h1 := List.mem_singleton.1 hm; have h2 := HFI5.out q hq; have h3 := HF0.out; have hlD := LD.out; have hlE := LE.out; have hs0 := LTX.out; have hs1 := LTZ.out; have hs2 := LHR.out; have hs3 := LHC.out; have hs4 := SS1.out; have hs5 := HCI.out; have hs6 := SS2.out; have hs7 := LWD.out; have hs8 := SS3.out; have hs9 := HF0.out; have hs10 := HBC.out; have hs11 := SS4.out; have hs12 := LWE.out; have hs13 := HHW.out; have hs14 := LUX6.out; have hs15 := LUZ6.out; have hs16 := LUD6.out; have hs17 := SBR6.out; have hs18 := SS7.out; have hs19 := HL13.out; have hs20 := SS8.out; have hs21 := HBFL.out; have hs22 := HBV.out; have hs23 := SS9.out; omega)
                  have hO := OR.out.ks HKZ.out (fun q hq hm => by have h1 := List.mem_singleton.1 hm; have h2 := HFI5.out q hq; have h3 := HF0.out; have hlD := LD.out; have hlE := LE.out; have hs0 := LTX.out; have hs1 := LTZ.out; have hs2 := LHR.out; have hs3 := LHC.out; have hs4 := SS1.out; have hs5 := HCI.out; have hs6 := SS2.out; have hs7 := LWD.out; have hs8 := SS3.out; have hs9 := HF0.out; have hs10 := HBC.out; have hs11 := SS4.out; have hs12 := LWE.out; have hs13 := HHW.out; have hs14 := LUX6.out; have hs15 := LUZ6.out; have hs16 := LUD6.out; have hs17 := SBR6.out; have hs18 := SS7.out; have hs19 := HL13.out; have hs20 := SS8.out; have hs21 := HBFL.out; have hs22 := HBV.out; have hs23 := SS9.out; omega) (fun q hq hm => by have h1 := List.mem_singleton.1 hm; have h2 := (OR.out.lt hq).1; have hlD := LD.out; have hlE := LE.out; have hs0 := LTX.out; have hs1 := LTZ.out; have hs2 := LHR.out; have hs3 := LHC.out; have hs4 := SS1.out; have hs5 := HCI.out; have hs6 := SS2.out; have hs7 := LWD.out; have hs8 := SS3.out; have hs9 := HF0.out; have hs10 := HBC.out; have hs11 := SS4.out; have hs12 := LWE.out; have hs13 := HHW.out; have hs14 := LUX6.out; have hs15 := LUZ6.out; have hs16 := LUD6.out; have hs17 := SBR6.out; have hs18 := SS7.out; have hs19 := HL13.out; have hs20 := SS8.out; have hs21 := HBFL.out; have hs22 := HBV.out; have hs23 := SS9.out; omega)
                  have hsz := hz.below.size
                  have hszr := SSR.out
                  have hfs := HFS5.out
                  (try simp only [Exit.inBlock, Exit.then])
                  refine bodyPost_ret (v := .tuple #[.agg #[.int .i64 r5.s, .slice A5 n5 c5], .slice A6 n6 c6]) ?_ rfl ?_
                  · rw [results_cell_tmp1 rfl]
                    exact stw.back2 hz.box Try.underlying50 rfl ux.szRob _
                  · rw [HREC.out, HR5.out]
                    exact ⟨A5, n5, c5, A6, n6, c6, rfl, hN.rrm (fun b hb => by have h1 := HFI5.out b hb; have h2 := HF0.out; have hlD := LD.out; have hlE := LE.out; have hs0 := LTX.out; have hs1 := LTZ.out; have hs2 := LHR.out; have hs3 := LHC.out; have hs4 := SS1.out; have hs5 := HCI.out; have hs6 := SS2.out; have hs7 := LWD.out; have hs8 := SS3.out; have hs9 := HF0.out; have hs10 := HBC.out; have hs11 := SS4.out; have hs12 := LWE.out; have hs13 := HHW.out; have hs14 := LUX6.out; have hs15 := LUZ6.out; have hs16 := LUD6.out; have hs17 := SBR6.out; have hs18 := SS7.out; have hs19 := HL13.out; have hs20 := SS8.out; have hs21 := HBFL.out; have hs22 := HBV.out; have hs23 := SS9.out; omega), (hO.lower (show w.heap.size ≤ _ by have hlD := LD.out; have hlE := LE.out; have hs0 := LTX.out; have hs1 := LTZ.out; have hs2 := LHR.out; have hs3 := LHC.out; have hs4 := SS1.out; have hs5 := HCI.out; have hs6 := SS2.out; have hs7 := LWD.out; have hs8 := SS3.out; have hs9 := HF0.out; have hs10 := HBC.out; have hs11 := SS4.out; have hs12 := LWE.out; have hs13 := HHW.out; have hs14 := LUX6.out; have hs15 := LUZ6.out; have hs16 := LUD6.out; have hs17 := SBR6.out; have hs18 := SS7.out; have hs19 := HL13.out; have hs20 := SS8.out; have hs21 := HBFL.out; have hs22 := HBV.out; have hs23 := SS9.out; omega)).rr (Nat.le_refl _) (fun b hb => by have h1 := HFI5.out b hb; have h2 := HF0.out; have hlD := LD.out; have hlE := LE.out; have hs0 := LTX.out; have hs1 := LTZ.out; have hs2 := LHR.out; have hs3 := LHC.out; have hs4 := SS1.out; have hs5 := HCI.out; have hs6 := SS2.out; have hs7 := LWD.out; have hs8 := SS3.out; have hs9 := HF0.out; have hs10 := HBC.out; have hs11 := SS4.out; have hs12 := LWE.out; have hs13 := HHW.out; have hs14 := LUX6.out; have hs15 := LUZ6.out; have hs16 := LUD6.out; have hs17 := SBR6.out; have hs18 := SS7.out; have hs19 := HL13.out; have hs20 := SS8.out; have hs21 := HBFL.out; have hs22 := HBV.out; have hs23 := SS9.out; omega) (fun q hq => (hO.lt hq).2), hB⟩
              · have hge9 : ¬ (k : Int) < (ny : Int) := by omega
                have g0 : decide ((k : Int) < (ny : Int)) = false := decide_eq_false hge9
                have g0c : decide (k < ny) = false := decide_eq_false hkn
                go_upto_region 9 with fail
                have mD1 : ∀ m : bx.Af wr, m.w.cell? ⟨bc, 1, none⟩ = some (.slice Ay ny cy) := fun m => (bx.Af.cells D6.out m).cell 1
                refine bx.region_after (by kernel_rfl) (by kernel_rfl) ?_
                repeat (go_big_quiet_step (fail))
                refine wpQuiet_nil ?_
                intro _ hw'
                obtain ⟨nq9, hw''⟩ := hw'
                subst hw''
                clear mD1 g0 g0c
                obtain ⟨w7, hw5⟩ : ∃ w5, nq9.w = w5 := ⟨_, rfl⟩
                have hb := nq9.below
                rw [hw5] at hb
                (try rw [hw5])
                clear hw5
                have SS7 := Lib.hid hb.size
                have B7 := Lib.hid (B6.out.trans (hb.mono B6.out.size))
                have X7 := Lib.hid (X6.out.below hb)
                have Z7 := Lib.hid (Z6.out.below hb)
                have D7 := Lib.hid (D6.out.below hb)
                have R7 := Lib.hid (R6.out.below hb)
                have Q7 := Lib.hid (Q6.out.below hb)
                have N7 := Lib.hid (N6.out.below hb)
                have O7 := Lib.hid (O6.out.below hb)
                clear hb nq9 B6 X6 Z6 D6 R6 Q6 N6 O6
                have HW := Lib.hid (show tw[j]? = some none from none_end (by have h1 := HP.out.2.2.2.2; rw [List.drop_eq_nil_of_le (by have h2 := HLN.out.1; omega)] at h1; exact h1.symm) (by have h1 := HTL.out; have h2 := HJ.out; omega))
                have cD1 : w7.cell? ⟨bc, 1, none⟩ = some (.slice Ay ny cy) := D7.out.cell 1
                obtain ⟨tk, htk⟩ : ∃ t, kp tw j zb = t := ⟨_, rfl⟩
                have HINS := Lib.hid (show (pend ts tw).take k ++ [⟨m, zb⟩] ++ (pend ts tw).drop k = pend ts tk by rw [← htk]; exact ins_data HW.out HMJ.out HP.out.2.2.2.1 HP.out.2.2.2.2)
                have HTKL := Lib.hid (show tk.length = 16 by rw [← htk, kp_len]; exact HTL.out)
                rw [htk] at HREC
                clear htk
                have HL13 := Lib.hid (show bc < w7.heap.size ∧ w.heap.size + 1 < w7.heap.size ∧ w1.heap.size ≤ w7.heap.size ∧ wc7.heap.size ≤ w7.heap.size by have h1 := D7.out.lt; have h2 := Z7.out.lt; have h3 := N7.out.hi_; have h4 := O7.out.hi_; exact ⟨h1, h2, h3.1, h4.2.2⟩)
                go_upto_region 13 with fail
                have hbx := bx.below_box w7 (.cells #[] 5)
                go_upto_region 14 with (first | (at_builtin; refine list_app0 rfl _ _ 22 rfl 5 _ _ .u8 Try.underlying22 HY8.out.1 HY8.out.2.1 HY8.out.2.2.1 (by rw [HY8.out.2.2.2]; omega) rfl rfl rfl (Ow.empty _ _ _) (ux.rd_of (Q7.out.below hbx)) (by omega) (by have h9 := hbx.size; omega) ?_; intro A4 c4 w4 ho4 hb4) | (refine stw.list_store rfl 90 _ _ rfl (w4.heap.size) #[.int .i64 m, .slice A4 nb c4] rfl rfl 90 _ (Bx.made _ _ _) rfl ux.szNf (ux.oneNf _ _ _ _) ?_; intro wz hz))
                have hb14 := hbx.trans (hb4.mono hbx.size)
                obtain ⟨bf, hbf⟩ : ∃ b, w4.heap.size = b := ⟨_, rfl⟩
                have HBFL := Lib.hid (show w7.heap.size ≤ bf by rw [← hbf]; exact hb14.size)
                have hb := hz.on (hb14.trans ((bx.below_box w4 (.cells #[.int .i64 0, .slice none 0 0] 90)).mono hb14.size)) hb14.size
                have hro := (ho4.rd.below (bx.below_box w4 (.cells #[.int .i64 0, .slice none 0 0] 90))).same hz.below.size fun b h1 h2 => hz.other b (by omega)
                have hbb4 : BF (In w7.heap.size bf) wz A4 nb c4 zb := BF.of_rd hro (fun b h1 h2 => ⟨h1, by rw [← hbf]; exact h2⟩)
                have hvx := hz.box
                (try rw [hbf] at hvx)
                (try rw [hbf])
                have HB4 := Lib.hid hbb4
                have HV4 := Lib.hid hvx
                clear hbx ho4 hb4 hb14 hbf hz hro hbb4 hvx
                have SS8 := Lib.hid hb.size
                clear cD1
                have B8 := Lib.hid (B7.out.trans (hb.mono B7.out.size))
                have X8 := Lib.hid (X7.out.below hb)
                have Z8 := Lib.hid (Z7.out.below hb)
                have D8 := Lib.hid (D7.out.below hb)
                have R8 := Lib.hid (R7.out.below hb)
                have Q8 := Lib.hid (Q7.out.below hb)
                have N8 := Lib.hid (N7.out.below hb)
                have O8 := Lib.hid (O7.out.below hb)
                clear hb B7 X7 Z7 D7 R7 Q7 N7 O7
                have V8 := Lib.hid HV4.out
                have HBV := Lib.hid (show bf < wz.heap.size from V8.out.lt)
                obtain ⟨F3, hF3⟩ : ∃ F : Nat → Prop, (fun b => FF b ∨ In w7.heap.size bf b) = F := ⟨_, rfl⟩
                have HFA := Lib.hid (show ∀ b, FF b → F3 b by rw [← hF3]; exact fun b hb => .inl hb)
                have HFB := Lib.hid (show ∀ b, F3 b → (FF b ∨ (w7.heap.size ≤ b ∧ b < bf)) by rw [← hF3]; exact fun b hb => hb)
                have hfb : ∀ b, F3 b → b < wz.heap.size := fun b hb => by have h0 := N8.out.hi_; rcases HFB.out b hb with h1 | h1; (have h2 := N8.out.fi b h1; omega); (have hlD := LD.out; have hlE := LE.out; have hs0 := LTX.out; have hs1 := LTZ.out; have hs2 := LHR.out; have hs3 := LHC.out; have hs4 := SS1.out; have hs5 := HCI.out; have hs6 := SS2.out; have hs7 := LWD.out; have hs8 := SS3.out; have hs9 := HF0.out; have hs10 := HBC.out; have hs11 := SS4.out; have hs12 := LWE.out; have hs13 := HHW.out; have hs14 := LUX6.out; have hs15 := LUZ6.out; have hs16 := LUD6.out; have hs17 := SBR6.out; have hs18 := SS7.out; have hs19 := HL13.out; have hs20 := SS8.out; have hs21 := HBFL.out; have hs22 := HBV.out; omega)
                have N14 := Lib.hid (N8.out.nf.mono HFA.out)
                have B14 := Lib.hid (HB4.out.mono (G := F3) (by rw [← hF3]; exact fun b hb => .inr hb))
                have HFC := Lib.hid hfb
                clear hF3 hfb
                obtain ⟨A7, hA7, hs7⟩ := nf_pre (k := k) Ay HKN.out HLN.out.2.1
                obtain ⟨A8, hA8, hs8⟩ := nf_post (k := k) Ay HKN.out HLN.out.2.1
                have HA7 := Lib.hid hA7
                have HA8 := Lib.hid hA8
                have HS7 := Lib.hid hs7
                have HS8 := Lib.hid hs8
                clear hA7 hA8 hs7 hs8
                refine reg.region_tailX (E14 wz.heap.size k) 14 111 [some [], some [], some [(1, 92)], some [], some [(2, 93), (3, 94)], some [(0, 91), (4, 95)], some [], some [(6, 97)], some [(5, 96), (7, 98)], some [], some [(9, 100)], some [], some [(10, 101), (11, 102)], some [(8, 99), (12, 103)], none, none] [(0, 91), (1, 92), (2, 93), (3, 94), (4, 95), (5, 96), (6, 97), (7, 98), (8, 99), (9, 100), (10, 101), (11, 102), (12, 103), (13, 104)]
                  (fun w' => Below wz.heap.size wz w')
                  (R14 F3 wz.heap.size k ny (pend ts tw) (⟨m, zb⟩ : Nf) A4 nb c4 [(1, .pointer (some ⟨bc, 1, none⟩)), (2, .slice Ay ny cy), (3, .int .i64 ((k : Int))), (4, .slice A7 k cy), (6, .agg #[.int .i64 m, .slice A4 nb c4]), (9, .pointer (some ⟨bc, 1, none⟩)), (10, .slice Ay ny cy), (11, .int .i64 ((k : Int))), (12, .slice A8 (ny - k) (cy - k))])
                  (by kernel_rfl) rfl (by kernel_rfl) (by kernel_rfl) rfl
                  (fun i w1 w2 hc he => hc.trans he.1) (r14_keep (by kernel_rfl) HFC.out) (own.below_drew (Below.refl _ _)) (by kernel_rfl) ⟨?_, ?_, ?_, ?_, ?_, ?_, ?_, ?_, ?_, ?_, ?_, ?_, ?_, ?_, trivial⟩ ?_
                · refine fun w8 hc  K hK => ?_
                  (try simp only [Act.put, List.setIfInBounds_toArray, List.set_cons_zero, List.set_cons_succ])
                  have hge : wz.heap.size ≤ w8.heap.size := hc.size
                  go_simp
                  exact hK (.slice (some ⟨w8.heap.size, 0, none⟩) 0 0) _ (GF.empty F3 (Bx.made _ _ _) hge) (Gr.of_below (bx.below_box _ _) hge)
                · refine fun w8 hc  K hK => ?_
                  (try simp only [Act.put, List.setIfInBounds_toArray, List.set_cons_zero, List.set_cons_succ])
                  go_simp
                  exact hK (.pointer (some ⟨bc, 1, none⟩)) _ rfl (Gr.refl _)
                · refine fun w8 hc v1 h1 K hK => ?_
                  obtain rfl : v1 = .pointer (some ⟨bc, 1, none⟩) := h1
                  (try simp only [Act.put, List.setIfInBounds_toArray, List.set_cons_zero, List.set_cons_succ])
                  have c0 : w8.cell? ⟨bc, 1, none⟩ = some (.slice Ay ny cy) := (D8.out.below hc).cell 1
                  go_simp
                  exact hK (.slice Ay ny cy) _ rfl (Gr.refl _)
                · refine fun w8 hc  K hK => ?_
                  (try simp only [Act.put, List.setIfInBounds_toArray, List.set_cons_zero, List.set_cons_succ])
                  go_simp
                  exact hK (.int .i64 ((k : Int))) _ rfl (Gr.refl _)
                · refine fun w8 hc v2 h2 v3 h3 K hK => ?_
                  obtain rfl : v2 = .slice Ay ny cy := h2
                  obtain rfl : v3 = .int .i64 ((k : Int)) := h3
                  (try simp only [Act.put, List.setIfInBounds_toArray, List.set_cons_zero, List.set_cons_succ])
                  have hs7 := HS7.out
                  go_simp
                  exact hK (.slice A7 k cy) _ rfl (Gr.refl _)
                · refine fun w8 hc v0 h0 v4 h4 K hK => ?_
                  have j0 : GF F3 wz.heap.size w8 0 [] v0 := h0
                  clear h0
                  obtain ⟨Ax0, cx0, rfl, j0⟩ := GF.open_ j0
                  obtain rfl : v4 = .slice A7 k cy := h4
                  (try simp only [Act.put, List.setIfInBounds_toArray, List.set_cons_zero, List.set_cons_succ])
                  have hge : wz.heap.size ≤ w8.heap.size := hc.size
                  rw [if_pos (by rfl)]
                  refine wp_gf _ _ rfl rfl rfl j0 HFC.out hge ((N14.out.below hc).take HKN.out HA7.out).src (by have h9 := HKN.out; have h8 := HN16.out; omega) ?_
                  intro A5 c5 w5 hg hgr
                  rw [Nat.zero_add] at hg ⊢
                  exact hK _ _ hg hgr
                · refine fun w8 hc  K hK => ?_
                  (try simp only [Act.put, List.setIfInBounds_toArray, List.set_cons_zero, List.set_cons_succ])
                  rw [if_pos (by rfl)]
                  refine stw.wp_load_bx 90 _ rfl bf rfl 90 _ (V8.out.below hc) Try.underlying90 rfl ux.szNf ?_
                  exact hK _ _ rfl (Gr.refl _)
                · refine fun w8 hc v6 h6 K hK => ?_
                  obtain rfl : v6 = .agg #[.int .i64 m, .slice A4 nb c4] := h6
                  (try simp only [Act.put, List.setIfInBounds_toArray, List.set_cons_zero, List.set_cons_succ])
                  have hge : wz.heap.size ≤ w8.heap.size := hc.size
                  go_simp
                  exact hK (.slice (some ⟨w8.heap.size, 0, none⟩) 1 1) _ ⟨_, rfl, Bx.made _ _ _⟩ (Gr.of_below (bx.below_box _ _) hge)
                · refine fun w8 hc v5 h5 v7 h7 K hK => ?_
                  have j5 : GF F3 wz.heap.size w8 k ((pend ts tw).take k) v5 := h5
                  clear h5
                  obtain ⟨Ax5, cx5, rfl, j5⟩ := GF.open_ j5
                  obtain ⟨q7, rfl, h7⟩ : ∃ q, v7 = .slice (some ⟨q, 0, none⟩) 1 1 ∧ Bx 90 w8 q #[.int .i64 m, .slice A4 nb c4] := h7
                  (try simp only [Act.put, List.setIfInBounds_toArray, List.set_cons_zero, List.set_cons_succ])
                  have hge : wz.heap.size ≤ w8.heap.size := hc.size
                  rw [if_pos (by rfl)]
                  refine wp_gf _ _ rfl rfl rfl j5 HFC.out hge (src_one (x := (⟨m, zb⟩ : Nf)) h7 (B14.out.below hc)) (by have h9 := HKN.out; have h8 := HN16.out; omega) ?_
                  intro A5 c5 w5 hg hgr
                  exact hK _ _ hg hgr
                · refine fun w8 hc  K hK => ?_
                  (try simp only [Act.put, List.setIfInBounds_toArray, List.set_cons_zero, List.set_cons_succ])
                  go_simp
                  exact hK (.pointer (some ⟨bc, 1, none⟩)) _ rfl (Gr.refl _)
                · refine fun w8 hc v9 h9 K hK => ?_
                  obtain rfl : v9 = .pointer (some ⟨bc, 1, none⟩) := h9
                  (try simp only [Act.put, List.setIfInBounds_toArray, List.set_cons_zero, List.set_cons_succ])
                  have c0 : w8.cell? ⟨bc, 1, none⟩ = some (.slice Ay ny cy) := (D8.out.below hc).cell 1
                  go_simp
                  exact hK (.slice Ay ny cy) _ rfl (Gr.refl _)
                · refine fun w8 hc  K hK => ?_
                  (try simp only [Act.put, List.setIfInBounds_toArray, List.set_cons_zero, List.set_cons_succ])
                  go_simp
                  exact hK (.int .i64 ((k : Int))) _ rfl (Gr.refl _)
                · refine fun w8 hc v10 h10 v11 h11 K hK => ?_
                  obtain rfl : v10 = .slice Ay ny cy := h10
                  obtain rfl : v11 = .int .i64 ((k : Int)) := h11
                  (try simp only [Act.put, List.setIfInBounds_toArray, List.set_cons_zero, List.set_cons_succ])
                  have hs8 := HS8.out
                  go_simp
                  exact hK (.slice A8 (ny - k) (cy - k)) _ rfl (Gr.refl _)
                · refine fun w8 hc v8 h8 v12 h12 K hK => ?_
                  have j8 : GF F3 wz.heap.size w8 (k + 1) ((pend ts tw).take k ++ [(⟨m, zb⟩ : Nf)]) v8 := h8
                  clear h8
                  obtain ⟨Ax8, cx8, rfl, j8⟩ := GF.open_ j8
                  obtain rfl : v12 = .slice A8 (ny - k) (cy - k) := h12
                  (try simp only [Act.put, List.setIfInBounds_toArray, List.set_cons_zero, List.set_cons_succ])
                  have hge : wz.heap.size ≤ w8.heap.size := hc.size
                  rw [if_pos (by rfl)]
                  refine wp_gf _ _ rfl rfl rfl j8 HFC.out hge ((N14.out.below hc).drop HKN.out HA8.out).src (by have h9 := HKN.out; have h8 := HN16.out; omega) ?_
                  intro A5 c5 w5 hg hgr
                  rw [show k + 1 + (ny - k) = ny + 1 by have h9 := HKN.out; omega] at hg ⊢
                  exact hK _ _ hg hgr
                refine fun wx9 hc v0 h0 v1 h1 v2 h2 v3 h3 v4 h4 v5 h5 v6 h6 v7 h7 v8 h8 v9 h9 v10 h10 v11 h11 v12 h12 v13 h13 => ?_
                have j0 : GF F3 wz.heap.size wx9 0 [] v0 := h0
                clear h0
                obtain ⟨Ax0, cx0, rfl, j0⟩ := GF.open_ j0
                obtain rfl : v1 = .pointer (some ⟨bc, 1, none⟩) := h1
                obtain rfl : v2 = .slice Ay ny cy := h2
                obtain rfl : v3 = .int .i64 ((k : Int)) := h3
                obtain rfl : v4 = .slice A7 k cy := h4
                have j5 : GF F3 wz.heap.size wx9 k ((pend ts tw).take k) v5 := h5
                clear h5
                obtain ⟨Ax5, cx5, rfl, j5⟩ := GF.open_ j5
                obtain rfl : v6 = .agg #[.int .i64 m, .slice A4 nb c4] := h6
                obtain ⟨q7, rfl, h7⟩ : ∃ q, v7 = .slice (some ⟨q, 0, none⟩) 1 1 ∧ Bx 90 wx9 q #[.int .i64 m, .slice A4 nb c4] := h7
                have j8 : GF F3 wz.heap.size wx9 (k + 1) ((pend ts tw).take k ++ [(⟨m, zb⟩ : Nf)]) v8 := h8
                clear h8
                obtain ⟨Ax8, cx8, rfl, j8⟩ := GF.open_ j8
                obtain rfl : v9 = .pointer (some ⟨bc, 1, none⟩) := h9
                obtain rfl : v10 = .slice Ay ny cy := h10
                obtain rfl : v11 = .int .i64 ((k : Int)) := h11
                obtain rfl : v12 = .slice A8 (ny - k) (cy - k) := h12
                have j13 : GF F3 wz.heap.size wx9 (ny + 1) ((pend ts tw).take k ++ [(⟨m, zb⟩ : Nf)] ++ (pend ts tw).drop k) v13 := h13
                clear h13
                obtain ⟨Ax13, cx13, rfl, j13⟩ := GF.open_ j13
                (try simp only [reg.Obs])
                (try simp only [Act.put, List.setIfInBounds_toArray, List.set_cons_zero, List.set_cons_succ])
                simp only [List.drop_succ_cons, List.drop_zero]
                have HG13 := Lib.hid j13
                clear j0 j5 h7 j8 j13
                have hb := hc
                clear hc
                have SS9 := Lib.hid hb.size
                have B9 := Lib.hid (B8.out.trans (hb.mono B8.out.size))
                have X9 := Lib.hid (X8.out.below hb)
                have Z9 := Lib.hid (Z8.out.below hb)
                have D9 := Lib.hid (D8.out.below hb)
                have V9 := Lib.hid (V8.out.below hb)
                have R9 := Lib.hid (R8.out.below hb)
                have Q9 := Lib.hid (Q8.out.below hb)
                have O9 := Lib.hid (O8.out.below hb)
                clear hb B8 X8 Z8 D8 V8 R8 Q8 O8
                have HG9 := Lib.hid (show wz.heap.size ≤ wx9.heap.size from SS9.out)
                obtain ⟨F5, hF5⟩ : ∃ F : Nat → Prop, (fun b => F3 b ∨ In wz.heap.size wx9.heap.size b) = F := ⟨_, rfl⟩
                have HF5 := Lib.hid (show ∀ b, F5 b → (FF b ∨ (w7.heap.size ≤ b ∧ b < wx9.heap.size)) by rw [← hF5]; exact fun b hb => by rcases hb with h1 | h1; (rcases HFB.out b h1 with h2 | h2; exact .inl h2; exact .inr (by have hlD := LD.out; have hlE := LE.out; have hs0 := LTX.out; have hs1 := LTZ.out; have hs2 := LHR.out; have hs3 := LHC.out; have hs4 := SS1.out; have hs5 := HCI.out; have hs6 := SS2.out; have hs7 := LWD.out; have hs8 := SS3.out; have hs9 := HF0.out; have hs10 := HBC.out; have hs11 := SS4.out; have hs12 := LWE.out; have hs13 := HHW.out; have hs14 := LUX6.out; have hs15 := LUZ6.out; have hs16 := LUD6.out; have hs17 := SBR6.out; have hs18 := SS7.out; have hs19 := HL13.out; have hs20 := SS8.out; have hs21 := HBFL.out; have hs22 := HBV.out; have hs23 := SS9.out; constructor <;> omega)); exact .inr (by have h2 := h1.1; have h3 := h1.2; have hlD := LD.out; have hlE := LE.out; have hs0 := LTX.out; have hs1 := LTZ.out; have hs2 := LHR.out; have hs3 := LHC.out; have hs4 := SS1.out; have hs5 := HCI.out; have hs6 := SS2.out; have hs7 := LWD.out; have hs8 := SS3.out; have hs9 := HF0.out; have hs10 := HBC.out; have hs11 := SS4.out; have hs12 := LWE.out; have hs13 := HHW.out; have hs14 := LUX6.out; have hs15 := LUZ6.out; have hs16 := LUD6.out; have hs17 := SBR6.out; have hs18 := SS7.out; have hs19 := HL13.out; have hs20 := SS8.out; have hs21 := HBFL.out; have hs22 := HBV.out; have hs23 := SS9.out; constructor <;> omega))
                have hgb := HG13.out.blk
                have N9 := Lib.hid (show Nrow F5 w0.heap.size w1.heap.size w7.heap.size wx9.heap.size wx9 Ax13 (ny + 1) cx13 (pend ts tk) from ⟨fun b hb => (HF5.out b hb).elim (fun h1 => .inl (by have h2 := O9.out.fi b h1; omega)) .inr, ⟨by have h1 := O9.out.hi_; omega, Nat.le_refl _⟩, by rw [← HINS.out]; exact HG13.out.nf (fun b hb => by rw [← hF5]; exact .inl hb) (fun g hg => by rw [← hF5]; exact .inr (hgb.1 g hg)) hgb.2.1 HFC.out⟩)
                have P9 := Lib.hid (show Orow F5 w0.heap.size w1.heap.size w7.heap.size wx9.heap.size (bc + 1) wc7.heap.size wx9 Ao no co to from ⟨N9.out.fi, ⟨N9.out.hi_.1, N9.out.hi_.2, O9.out.hi_.2.2⟩, O9.out.of_.mono (fun b hb => by rw [← hF5]; exact .inl (HFA.out b hb)), fun g hg => ⟨(O9.out.blk g hg).1, fun h9 => by have h1 := O9.out.blk g hg; rcases HF5.out g h9 with h2 | h2; exact h1.2 h2; (have h3 := h1.1; have hlD := LD.out; have hlE := LE.out; have hs0 := LTX.out; have hs1 := LTZ.out; have hs2 := LHR.out; have hs3 := LHC.out; have hs4 := SS1.out; have hs5 := HCI.out; have hs6 := SS2.out; have hs7 := LWD.out; have hs8 := SS3.out; have hs9 := HF0.out; have hs10 := HBC.out; have hs11 := SS4.out; have hs12 := LWE.out; have hs13 := HHW.out; have hs14 := LUX6.out; have hs15 := LUZ6.out; have hs16 := LUD6.out; have hs17 := SBR6.out; have hs18 := SS7.out; have hs19 := HL13.out; have hs20 := SS8.out; have hs21 := HBFL.out; have hs22 := HBV.out; have hs23 := SS9.out; omega)⟩⟩)
                clear hgb hF5 O9
                have cD1 : wx9.cell? ⟨bc, 1, none⟩ = some (.slice Ay ny cy) := D9.out.cell 1
                have fD1 : wx9.frozen? ⟨bc, 1, none⟩ = false := D9.out.free 1
                go_upto_region 15 with fail
                clear cD1 fD1
                have hWW : (wx9.setCell ⟨bc, 1, none⟩ (.slice Ax13 (ny + 1) cx13)) = (wx9.setCell ⟨bc, 1, none⟩ (.slice Ax13 (ny + 1) cx13)) := rfl
                obtain ⟨w10, hW⟩ : ∃ wy, (wx9.setCell ⟨bc, 1, none⟩ (.slice Ax13 (ny + 1) cx13)) = wy := ⟨_, rfl⟩
                rw [hW]
                clear hWW
                have B10 := Lib.hid (show Below w.heap.size w w10 by rw [← hW]; exact (B9.out.setCell (p := ⟨bc, 1, none⟩) (by have hlD := LD.out; have hlE := LE.out; have hs0 := LTX.out; have hs1 := LTZ.out; have hs2 := LHR.out; have hs3 := LHC.out; have hs4 := SS1.out; have hs5 := HCI.out; have hs6 := SS2.out; have hs7 := LWD.out; have hs8 := SS3.out; have hs9 := HF0.out; have hs10 := HBC.out; have hs11 := SS4.out; have hs12 := LWE.out; have hs13 := HHW.out; have hs14 := LUX6.out; have hs15 := LUZ6.out; have hs16 := LUD6.out; have hs17 := SBR6.out; have hs18 := SS7.out; have hs19 := HL13.out; have hs20 := SS8.out; have hs21 := HBFL.out; have hs22 := HBV.out; have hs23 := SS9.out; first | omega | (simp <;> omega)) _))
                have X10 := Lib.hid (show Bx 50 w10 (w.heap.size) #[.int .i64 s, .slice A n c] by rw [← hW]; exact (X9.out.other (by have hlD := LD.out; have hlE := LE.out; have hs0 := LTX.out; have hs1 := LTZ.out; have hs2 := LHR.out; have hs3 := LHC.out; have hs4 := SS1.out; have hs5 := HCI.out; have hs6 := SS2.out; have hs7 := LWD.out; have hs8 := SS3.out; have hs9 := HF0.out; have hs10 := HBC.out; have hs11 := SS4.out; have hs12 := LWE.out; have hs13 := HHW.out; have hs14 := LUX6.out; have hs15 := LUZ6.out; have hs16 := LUD6.out; have hs17 := SBR6.out; have hs18 := SS7.out; have hs19 := HL13.out; have hs20 := SS8.out; have hs21 := HBFL.out; have hs22 := HBV.out; have hs23 := SS9.out; first | omega | (simp <;> omega)) _ _))
                have Z10 := Lib.hid (show Bx 50 w10 (w.heap.size + 1) #[.int .i64 0, .slice none 0 0] by rw [← hW]; exact (Z9.out.other (by have hlD := LD.out; have hlE := LE.out; have hs0 := LTX.out; have hs1 := LTZ.out; have hs2 := LHR.out; have hs3 := LHC.out; have hs4 := SS1.out; have hs5 := HCI.out; have hs6 := SS2.out; have hs7 := LWD.out; have hs8 := SS3.out; have hs9 := HF0.out; have hs10 := HBC.out; have hs11 := SS4.out; have hs12 := LWE.out; have hs13 := HHW.out; have hs14 := LUX6.out; have hs15 := LUZ6.out; have hs16 := LUD6.out; have hs17 := SBR6.out; have hs18 := SS7.out; have hs19 := HL13.out; have hs20 := SS8.out; have hs21 := HBFL.out; have hs22 := HBV.out; have hs23 := SS9.out; first | omega | (simp <;> omega)) _ _))
                have D10 := Lib.hid (show Bx 50 w10 (bc) #[.int .i64 ts, .slice Ax13 (ny + 1) cx13] by rw [← hW]; exact (D9.out.set 1 _))
                have V10 := Lib.hid (show Bx 90 w10 (bf) #[.int .i64 m, .slice A4 nb c4] by rw [← hW]; exact (V9.out.other (by have hlD := LD.out; have hlE := LE.out; have hs0 := LTX.out; have hs1 := LTZ.out; have hs2 := LHR.out; have hs3 := LHC.out; have hs4 := SS1.out; have hs5 := HCI.out; have hs6 := SS2.out; have hs7 := LWD.out; have hs8 := SS3.out; have hs9 := HF0.out; have hs10 := HBC.out; have hs11 := SS4.out; have hs12 := LWE.out; have hs13 := HHW.out; have hs14 := LUX6.out; have hs15 := LUZ6.out; have hs16 := LUD6.out; have hs17 := SBR6.out; have hs18 := SS7.out; have hs19 := HL13.out; have hs20 := SS8.out; have hs21 := HBFL.out; have hs22 := HBV.out; have hs23 := SS9.out; first | omega | (simp <;> omega)) _ _))
                have R10 := Lib.hid (show RR rowNf w10 lo hi (.slice A n c) xs by rw [← hW]; exact (R9.out.same (by simp [World.setCell]) fun b h1 h2 => by rw [Below.heap_setCell _ _ _ _ (by have hlD := LD.out; have hlE := LE.out; have hs0 := LTX.out; have hs1 := LTZ.out; have hs2 := LHR.out; have hs3 := LHC.out; have hs4 := SS1.out; have hs5 := HCI.out; have hs6 := SS2.out; have hs7 := LWD.out; have hs8 := SS3.out; have hs9 := HF0.out; have hs10 := HBC.out; have hs11 := SS4.out; have hs12 := LWE.out; have hs13 := HHW.out; have hs14 := LUX6.out; have hs15 := LUZ6.out; have hs16 := LUD6.out; have hs17 := SBR6.out; have hs18 := SS7.out; have hs19 := HL13.out; have hs20 := SS8.out; have hs21 := HBFL.out; have hs22 := HBV.out; have hs23 := SS9.out; first | omega | (simp <;> omega))]))
                have Q10 := Lib.hid (show RR ux.bytes w10 lo2 hi2 (.slice Ab nb cb) zb by rw [← hW]; exact (Q9.out.same (by simp [World.setCell]) fun b h1 h2 => by rw [Below.heap_setCell _ _ _ _ (by have hlD := LD.out; have hlE := LE.out; have hs0 := LTX.out; have hs1 := LTZ.out; have hs2 := LHR.out; have hs3 := LHC.out; have hs4 := SS1.out; have hs5 := HCI.out; have hs6 := SS2.out; have hs7 := LWD.out; have hs8 := SS3.out; have hs9 := HF0.out; have hs10 := HBC.out; have hs11 := SS4.out; have hs12 := LWE.out; have hs13 := HHW.out; have hs14 := LUX6.out; have hs15 := LUZ6.out; have hs16 := LUD6.out; have hs17 := SBR6.out; have hs18 := SS7.out; have hs19 := HL13.out; have hs20 := SS8.out; have hs21 := HBFL.out; have hs22 := HBV.out; have hs23 := SS9.out; first | omega | (simp <;> omega))]))
                have N10 := Lib.hid (show Nrow F5 w0.heap.size w1.heap.size w7.heap.size wx9.heap.size w10 Ax13 (ny + 1) cx13 (pend ts tk) by rw [← hW]; exact (N9.out.same (by simp [World.setCell]) fun b h1 h2 => by rw [Below.heap_setCell _ _ _ _ (by have hlD := LD.out; have hlE := LE.out; have hs0 := LTX.out; have hs1 := LTZ.out; have hs2 := LHR.out; have hs3 := LHC.out; have hs4 := SS1.out; have hs5 := HCI.out; have hs6 := SS2.out; have hs7 := LWD.out; have hs8 := SS3.out; have hs9 := HF0.out; have hs10 := HBC.out; have hs11 := SS4.out; have hs12 := LWE.out; have hs13 := HHW.out; have hs14 := LUX6.out; have hs15 := LUZ6.out; have hs16 := LUD6.out; have hs17 := SBR6.out; have hs18 := SS7.out; have hs19 := HL13.out; have hs20 := SS8.out; have hs21 := HBFL.out; have hs22 := HBV.out; have hs23 := SS9.out; first | omega | (simp <;> omega))]))
                have P10 := Lib.hid (show Orow F5 w0.heap.size w1.heap.size w7.heap.size wx9.heap.size (bc + 1) wc7.heap.size w10 Ao no co to by rw [← hW]; exact (P9.out.same (by simp [World.setCell]) fun b h1 h2 => by rw [Below.heap_setCell _ _ _ _ (by have hlD := LD.out; have hlE := LE.out; have hs0 := LTX.out; have hs1 := LTZ.out; have hs2 := LHR.out; have hs3 := LHC.out; have hs4 := SS1.out; have hs5 := HCI.out; have hs6 := SS2.out; have hs7 := LWD.out; have hs8 := SS3.out; have hs9 := HF0.out; have hs10 := HBC.out; have hs11 := SS4.out; have hs12 := LWE.out; have hs13 := HHW.out; have hs14 := LUX6.out; have hs15 := LUZ6.out; have hs16 := LUD6.out; have hs17 := SBR6.out; have hs18 := SS7.out; have hs19 := HL13.out; have hs20 := SS8.out; have hs21 := HBFL.out; have hs22 := HBV.out; have hs23 := SS9.out; first | omega | (simp <;> omega))]))
                clear hW B9 X9 Z9 D9 V9 R9 Q9 N9 P9
                have cD0 : w10.cell? ⟨bc, 0, none⟩ = some (.int .i64 ts) := D10.out.cell 0
                have cD1 : w10.cell? ⟨bc, 1, none⟩ = some (.slice Ax13 (ny + 1) cx13) := D10.out.cell 1
                go_wp2_with (refine stw.list_load rfl 50 _ rfl (bc) rfl 50 _ D10.out Try.underlying50 rfl ux.szRob ?_)
                clear cD0 cD1
                (with_reducible refine (specRel F5 ⟨ts, tk, to⟩ (bc + 1) Ax13 (ny + 1) cx13 Ao no co _ N10.out.nf P10.out.of_ (fun g hg => (P10.out.blk g hg).2) (fun b hb => by have h1 := N10.out.fi b hb; have h2 := N10.out.hi_; omega) HTS.out HTKL.out (by have h1 := P10.out.of_.len; have h2 := HTO.out; omega) (by have h1 := P10.out.hi_; have hlD := LD.out; have hlE := LE.out; have hs0 := LTX.out; have hs1 := LTZ.out; have hs2 := LHR.out; have hs3 := LHC.out; have hs4 := SS1.out; have hs5 := HCI.out; have hs6 := SS2.out; have hs7 := LWD.out; have hs8 := SS3.out; have hs9 := HF0.out; have hs10 := HBC.out; have hs11 := SS4.out; have hs12 := LWE.out; have hs13 := HHW.out; have hs14 := LUX6.out; have hs15 := LUZ6.out; have hs16 := LUD6.out; have hs17 := SBR6.out; have hs18 := SS7.out; have hs19 := HL13.out; have hs20 := SS8.out; have hs21 := HBFL.out; have hs22 := HBV.out; have hs23 := SS9.out; omega)).mono ?_)
                rintro e wr5 hp
                obtain ⟨A5, n5, c5, A6, n6, c6, rfl, hN, hO, hA, hK⟩ := rl_parts hp
                clear hp
                have HBK := Lib.hid (show ∀ q, q ∈ ux.blks Ao → (bc + 1) ≤ q ∧ q < wc7.heap.size from fun q hq => (P10.out.blk q (in_blk hq)).1)
                have SSR := Lib.hid hK.size
                have BR := Lib.hid (B10.out.trans (ux.ks_bel hK (fun q hq => by have h1 := HBK.out q hq; have hlD := LD.out; have hlE := LE.out; have hs0 := LTX.out; have hs1 := LTZ.out; have hs2 := LHR.out; have hs3 := LHC.out; have hs4 := SS1.out; have hs5 := HCI.out; have hs6 := SS2.out; have hs7 := LWD.out; have hs8 := SS3.out; have hs9 := HF0.out; have hs10 := HBC.out; have hs11 := SS4.out; have hs12 := LWE.out; have hs13 := HHW.out; have hs14 := LUX6.out; have hs15 := LUZ6.out; have hs16 := LUD6.out; have hs17 := SBR6.out; have hs18 := SS7.out; have hs19 := HL13.out; have hs20 := SS8.out; have hs21 := HBFL.out; have hs22 := HBV.out; have hs23 := SS9.out; omega) B10.out.size))
                have ZR := Lib.hid (ux.bx_ks Z10.out hK (fun hm => by have h1 := HBK.out _ hm; have hlD := LD.out; have hlE := LE.out; have hs0 := LTX.out; have hs1 := LTZ.out; have hs2 := LHR.out; have hs3 := LHC.out; have hs4 := SS1.out; have hs5 := HCI.out; have hs6 := SS2.out; have hs7 := LWD.out; have hs8 := SS3.out; have hs9 := HF0.out; have hs10 := HBC.out; have hs11 := SS4.out; have hs12 := LWE.out; have hs13 := HHW.out; have hs14 := LUX6.out; have hs15 := LUZ6.out; have hs16 := LUD6.out; have hs17 := SBR6.out; have hs18 := SS7.out; have hs19 := HL13.out; have hs20 := SS8.out; have hs21 := HBFL.out; have hs22 := HBV.out; have hs23 := SS9.out; omega))
                have HFI5 := Lib.hid (show ∀ b, F5 b → (w0.heap.size ≤ b ∧ b < w1.heap.size) ∨ (w7.heap.size ≤ b ∧ b < wr5.heap.size) from fun b hb => by have h1 := N10.out.fi b hb; have h2 := N10.out.hi_; have h3 := hK.size; omega)
                have HFS5 := Lib.hid (show w1.heap.size ≤ wr5.heap.size by have h2 := N10.out.hi_; have h3 := hK.size; omega)
                have NR := Lib.hid hN
                have OR := Lib.hid hO
                clear hN hO hA hK
                obtain ⟨r5, hr5⟩ : ∃ r, runS (⟨ts, tk, to⟩ : St) = r := ⟨_, rfl⟩
                have HR5 := Lib.hid hr5
                rw [hr5] at NR OR ⊢
                clear hr5
                go_wp2_with (refine stw.list_store rfl 50 _ _ rfl (w.heap.size + 1) #[.int .i64 r5.s, .slice A5 n5 c5] rfl rfl 50 _ ZR.out rfl ux.szRob (ux.oneRob _ _ _ _) ?_; intro wz9 hz)
                have hB := hz.on BR.out (show w.heap.size ≤ w.heap.size + 1 by omega)
                have HKZ := Lib.hid (show KS [w.heap.size + 1] wr5 wz9 from ⟨hz.below.os, hz.below.tape, hz.below.output, hz.below.size, fun q h1 h2 => hz.other q (fun e => h2 (List.mem_singleton.2 e))⟩)
                have hN := NR.out.ks HKZ.out (fun q hq hm => by have h1 := List.mem_singleton.1 hm; have h2 := HFI5.out q hq; have h3 := HF0.out; have hlD := LD.out; have hlE := LE.out; have hs0 := LTX.out; have hs1 := LTZ.out; have hs2 := LHR.out; have hs3 := LHC.out; have hs4 := SS1.out; have hs5 := HCI.out; have hs6 := SS2.out; have hs7 := LWD.out; have hs8 := SS3.out; have hs9 := HF0.out; have hs10 := HBC.out; have hs11 := SS4.out; have hs12 := LWE.out; have hs13 := HHW.out; have hs14 := LUX6.out; have hs15 := LUZ6.out; have hs16 := LUD6.out; have hs17 := SBR6.out; have hs18 := SS7.out; have hs19 := HL13.out; have hs20 := SS8.out; have hs21 := HBFL.out; have hs22 := HBV.out; have hs23 := SS9.out; omega)
                have hO := OR.out.ks HKZ.out (fun q hq hm => by have h1 := List.mem_singleton.1 hm; have h2 := HFI5.out q hq; have h3 := HF0.out; have hlD := LD.out; have hlE := LE.out; have hs0 := LTX.out; have hs1 := LTZ.out; have hs2 := LHR.out; have hs3 := LHC.out; have hs4 := SS1.out; have hs5 := HCI.out; have hs6 := SS2.out; have hs7 := LWD.out; have hs8 := SS3.out; have hs9 := HF0.out; have hs10 := HBC.out; have hs11 := SS4.out; have hs12 := LWE.out; have hs13 := HHW.out; have hs14 := LUX6.out; have hs15 := LUZ6.out; have hs16 := LUD6.out; have hs17 := SBR6.out; have hs18 := SS7.out; have hs19 := HL13.out; have hs20 := SS8.out; have hs21 := HBFL.out; have hs22 := HBV.out; have hs23 := SS9.out; omega) (fun q hq hm => by have h1 := List.mem_singleton.1 hm; have h2 := (OR.out.lt hq).1; have hlD := LD.out; have hlE := LE.out; have hs0 := LTX.out; have hs1 := LTZ.out; have hs2 := LHR.out; have hs3 := LHC.out; have hs4 := SS1.out; have hs5 := HCI.out; have hs6 := SS2.out; have hs7 := LWD.out; have hs8 := SS3.out; have hs9 := HF0.out; have hs10 := HBC.out; have hs11 := SS4.out; have hs12 := LWE.out; have hs13 := HHW.out; have hs14 := LUX6.out; have hs15 := LUZ6.out; have hs16 := LUD6.out; have hs17 := SBR6.out; have hs18 := SS7.out; have hs19 := HL13.out; have hs20 := SS8.out; have hs21 := HBFL.out; have hs22 := HBV.out; have hs23 := SS9.out; omega)
                have hsz := hz.below.size
                have hszr := SSR.out
                have hfs := HFS5.out
                (try simp only [Exit.inBlock, Exit.then])
                refine bodyPost_ret (v := .tuple #[.agg #[.int .i64 r5.s, .slice A5 n5 c5], .slice A6 n6 c6]) ?_ rfl ?_
                · rw [results_cell_tmp1 rfl]
                  exact stw.back2 hz.box Try.underlying50 rfl ux.szRob _
                · rw [HREC.out, HR5.out]
                  exact ⟨A5, n5, c5, A6, n6, c6, rfl, hN.rrm (fun b hb => by have h1 := HFI5.out b hb; have h2 := HF0.out; have hlD := LD.out; have hlE := LE.out; have hs0 := LTX.out; have hs1 := LTZ.out; have hs2 := LHR.out; have hs3 := LHC.out; have hs4 := SS1.out; have hs5 := HCI.out; have hs6 := SS2.out; have hs7 := LWD.out; have hs8 := SS3.out; have hs9 := HF0.out; have hs10 := HBC.out; have hs11 := SS4.out; have hs12 := LWE.out; have hs13 := HHW.out; have hs14 := LUX6.out; have hs15 := LUZ6.out; have hs16 := LUD6.out; have hs17 := SBR6.out; have hs18 := SS7.out; have hs19 := HL13.out; have hs20 := SS8.out; have hs21 := HBFL.out; have hs22 := HBV.out; have hs23 := SS9.out; omega), (hO.lower (show w.heap.size ≤ _ by have hlD := LD.out; have hlE := LE.out; have hs0 := LTX.out; have hs1 := LTZ.out; have hs2 := LHR.out; have hs3 := LHC.out; have hs4 := SS1.out; have hs5 := HCI.out; have hs6 := SS2.out; have hs7 := LWD.out; have hs8 := SS3.out; have hs9 := HF0.out; have hs10 := HBC.out; have hs11 := SS4.out; have hs12 := LWE.out; have hs13 := HHW.out; have hs14 := LUX6.out; have hs15 := LUZ6.out; have hs16 := LUD6.out; have hs17 := SBR6.out; have hs18 := SS7.out; have hs19 := HL13.out; have hs20 := SS8.out; have hs21 := HBFL.out; have hs22 := HBV.out; have hs23 := SS9.out; omega)).rr (Nat.le_refl _) (fun b hb => by have h1 := HFI5.out b hb; have h2 := HF0.out; have hlD := LD.out; have hlE := LE.out; have hs0 := LTX.out; have hs1 := LTZ.out; have hs2 := LHR.out; have hs3 := LHC.out; have hs4 := SS1.out; have hs5 := HCI.out; have hs6 := SS2.out; have hs7 := LWD.out; have hs8 := SS3.out; have hs9 := HF0.out; have hs10 := HBC.out; have hs11 := SS4.out; have hs12 := LWE.out; have hs13 := HHW.out; have hs14 := LUX6.out; have hs15 := LUZ6.out; have hs16 := LUD6.out; have hs17 := SBR6.out; have hs18 := SS7.out; have hs19 := HL13.out; have hs20 := SS8.out; have hs21 := HBFL.out; have hs22 := HBV.out; have hs23 := SS9.out; omega) (fun q hq => (hO.lt hq).2), hB⟩
        · have hlt9 : ¬ (16 : Int) ≤ (dk : Int) := by omega
          go_wp2_with fail
          obtain ⟨p, hp⟩ : ∃ p, dk - 15 = p := ⟨_, rfl⟩
          obtain ⟨j, hj⟩ : ∃ j, dk - p = j := ⟨_, rfl⟩
          have HP15 := Lib.hid (And.intro hp h16)
          have HT := Lib.hid (show advS ⟨s, ws, []⟩ p = ⟨s, ws, ([] : List (List Int))⟩ by obtain rfl : p = 0 := (by omega); exact adv_zero (t := ⟨s, ws, []⟩) HOK.out.s)
          have hT2 := adv_of HT.out HOK.out.len
          have HTS := Lib.hid hT2.1
          have HTL := Lib.hid hT2.2.1
          have HTO := Lib.hid hT2.2.2.1
          have HTE := Lib.hid hT2.2.2.2
          have HJ := Lib.hid (show j ≤ 15 ∧ p + j = dk by omega)
          clear hp hT2 h16 hlt9
          have HREC := Lib.hid (show r2 = (buf (runS ⟨s, kp ws j zb, ([] : List (List Int))⟩), (runS ⟨s, kp ws j zb, ([] : List (List Int))⟩).out) by rw [← HR2.out]; exact rc_put HMAY.out HST.out HD.out HP15.out.1 hj HT.out)
          have HSTILL := Lib.hid (show ∀ x, ws[j]? = some (some x) → r2 = (⟨s, pend s ws⟩, ([] : List (List Int))) from fun x hx => by rw [← HR2.out]; exact rc_still HMAY.out HST.out HD.out HP15.out.1 hj HT.out HOK.out hx)
          have HMJ := Lib.hid (show m = (s + (j : Int)) % 4096 by have h1 := at_sqd (s := s) (n := m) (by rw [HD.out]; omega); rw [HD.out] at h1; have h2 := HTE.out; have h3 := HJ.out.2; omega)
          have HSJ := Lib.hid (show sqd s m = (j : Int) by rw [HMJ.out]; exact sqd_at HTS.out (by have := HJ.out; omega))
          clear hj
          obtain ⟨K, hK⟩ : ∃ K, (pend s (ws.take j)).length = K := ⟨_, rfl⟩
          have hpc := pend_cut (a := ws) HTS.out (by have := HTL.out; omega) j
          rw [hK] at hpc
          have HP := Lib.hid hpc
          clear hpc hK
          have HLN := Lib.hid N4.out.len
          have HN16 := Lib.hid (show n3 ≤ 16 by have h1 := pend_len ws s; have h2 := HLN.out.1; have h3 := HTL.out; omega)
          have HKY := Lib.hid (show K ≤ n3 by have h1 := HP.out.2.2.1; have h2 := HLN.out.1; omega)
          have hncn := HLN.out.2
          go_wp2_with fail
          go_loopw [11] (fun v0 wr => ∃ (k : Nat), v0 = .int .i64 ((k : Int)) ∧ (k ≤ K) ∧ Below w.heap.size w wr ∧ Bx 50 wr w.heap.size #[.int .i64 s, .slice A n c] ∧ Bx 50 wr (w.heap.size + 1) #[.int .i64 0, .slice none 0 0] ∧ Bx 50 wr bc #[.int .i64 s, .slice A3 n3 c3] ∧ RR rowNf wr lo hi (.slice A n c) xs ∧ RR ux.bytes wr lo2 hi2 (.slice Ab nb cb) zb ∧ Nrow FF w0.heap.size w1.heap.size 0 0 wr A3 n3 c3 (pend s ws) ∧ Orow FF w0.heap.size w1.heap.size 0 0 be (be + 1) wr (some ⟨be, 0, none⟩) 0 0 ([] : List (List Int))) (fun i _ => K - (intOf i).toNat)
          case atStart => exact ⟨0, rfl, by omega, B4.out, X4.out, Z4.out, D4.out, R4.out, Q4.out, N4.out, O4.out⟩
          case round =>
            obtain ⟨k, rfl, ghk, gB5, gX5, gZ5, gD5, gR5, gQ5, gN5, gO5⟩ := hrel
            have B5 := Lib.hid gB5
            have X5 := Lib.hid gX5
            have Z5 := Lib.hid gZ5
            have D5 := Lib.hid gD5
            have R5 := Lib.hid gR5
            have Q5 := Lib.hid gQ5
            have N5 := Lib.hid gN5
            have O5 := Lib.hid gO5
            have hk := Lib.hid ghk
            clear gB5 gX5 gZ5 gD5 gR5 gQ5 gN5 gO5 ghk
            have LUX5 := Lib.hid X5.out.lt
            have LUZ5 := Lib.hid Z5.out.lt
            have LUD5 := Lib.hid D5.out.lt
            have SBR5 := Lib.hid B5.out.size
            have hk9 := hk.out
            have hkY := HKY.out
            have HKN := Lib.hid (show k ≤ n3 by omega)
            by_cases hkK : k < K
            · have hltn : k < n3 := by omega
              have hlt : (k : Int) < (n3 : Int) := by omega
              obtain ⟨b, off, x, A0, n0, c0, rfl, hFb, hbl, hx, k0, k1, hB⟩ := N5.out.nf.at_ (i := k) hltn
              have HX := Lib.hid hx
              have HFB0 := Lib.hid (And.intro hFb hbl)
              clear hFb hbl hB hx k1
              obtain ⟨e1, he1⟩ : ∃ e, sqd s x.Seq = e := ⟨_, rfl⟩
              have HE1 := Lib.hid he1
              clear he1
              have g0 : decide ((k : Int) < (n3 : Int)) = true := decide_eq_true hlt
              have g0c : decide (k < n3) = true := decide_eq_true hltn
              have hle : e1 < (j : Int) := by have h1 := HP.out.1 k x hkK HX.out; rw [HE1.out] at h1; exact h1
              have g1 : decide (e1 < (j : Int)) = true := decide_eq_true hle
              clear hle
              go_upto_region 9 with fail
              have mD0 : ∀ m : bx.Af wr, m.w.cell? ⟨bc, 0, none⟩ = some (.int .i64 s) := fun m => (bx.Af.cells D5.out m).cell 0
              have mD1 : ∀ m : bx.Af wr, m.w.cell? ⟨bc, 1, none⟩ = some (.slice (some ⟨b, off, none⟩) n3 c3) := fun m => (bx.Af.cells D5.out m).cell 1
              have mk0 := af_cellR k0
              have q1 := Lib.hid (fun m_ => ((bs.specSd s x.Seq m_.w).mono fun _ _ h => ⟨by rw [h.1, HE1.out], h.2 ▸ Below.refl _ _⟩) : ∀ m_ : bx.Af wr, Calls Try.prog 43 #[.int .i64 s, .int .i64 x.Seq] m_.w fun e w' => e = .returned (.int .i64 e1) ∧ Below m_.w.heap.size m_.w w')
              have q2 := Lib.hid (fun m_ => ((bs.specSd s m m_.w).mono fun _ _ h => ⟨by rw [h.1, HSJ.out], h.2 ▸ Below.refl _ _⟩) : ∀ m_ : bx.Af wr, Calls Try.prog 43 #[.int .i64 s, .int .i64 m] m_.w fun e w' => e = .returned (.int .i64 (j : Int)) ∧ Below m_.w.heap.size m_.w w')
              refine bx.region_after (by kernel_rfl) (by kernel_rfl) ?_
              repeat (go_big_quiet_step (first | (go_at_call 43; with_reducible exact bx.Af.call (q1.out _)) | (go_at_call 43; with_reducible exact bx.Af.call (q2.out _))))
              refine wpQuiet_nil ?_
              intro _ hw'
              obtain ⟨nq9, hw''⟩ := hw'
              subst hw''
              clear mD0 mD1 mk0 q1 q2 g0 g0c g1 k0
              obtain ⟨w6, hw5⟩ : ∃ w5, nq9.w = w5 := ⟨_, rfl⟩
              have hb := nq9.below
              rw [hw5] at hb
              (try rw [hw5])
              clear hw5
              have SS6 := Lib.hid hb.size
              have B6 := Lib.hid (B5.out.trans (hb.mono B5.out.size))
              have X6 := Lib.hid (X5.out.below hb)
              have Z6 := Lib.hid (Z5.out.below hb)
              have D6 := Lib.hid (D5.out.below hb)
              have R6 := Lib.hid (R5.out.below hb)
              have Q6 := Lib.hid (Q5.out.below hb)
              have N6 := Lib.hid (N5.out.below hb)
              have O6 := Lib.hid (O5.out.below hb)
              clear hb nq9 B5 X5 Z5 D5 R5 Q5 N5 O5
              go_wp2_with fail
              go_roundw
              case rel => exact ⟨k + 1, by go_num, by omega, B6.out, X6.out, Z6.out, D6.out, R6.out, Q6.out, N6.out, O6.out⟩
              case measure => simp [intOf]; omega
            · obtain rfl : k = K := by omega
              clear hkK hk9
              by_cases hkn : k < n3
              · have hltn : k < n3 := by omega
                have hlt : (k : Int) < (n3 : Int) := by omega
                obtain ⟨b, off, x, A0, n0, c0, rfl, hFb, hbl, hx, k0, k1, hB⟩ := N5.out.nf.at_ (i := k) hltn
                have HX := Lib.hid hx
                have HFB0 := Lib.hid (And.intro hFb hbl)
                clear hFb hbl hB hx k1
                obtain ⟨e1, he1⟩ : ∃ e, sqd s x.Seq = e := ⟨_, rfl⟩
                have HE1 := Lib.hid he1
                clear he1
                have g0 : decide ((k : Int) < (n3 : Int)) = true := decide_eq_true hlt
                have g0c : decide (k < n3) = true := decide_eq_true hltn
                have hle : ¬ e1 < (j : Int) := by have h1 := HP.out.2.1 x HX.out; rw [HE1.out] at h1; omega
                have g1 : decide (e1 < (j : Int)) = false := decide_eq_false hle
                clear hle
                go_upto_region 9 with fail
                have mD0 : ∀ m : bx.Af wr, m.w.cell? ⟨bc, 0, none⟩ = some (.int .i64 s) := fun m => (bx.Af.cells D5.out m).cell 0
                have mD1 : ∀ m : bx.Af wr, m.w.cell? ⟨bc, 1, none⟩ = some (.slice (some ⟨b, off, none⟩) n3 c3) := fun m => (bx.Af.cells D5.out m).cell 1
                have mk0 := af_cellR k0
                have q1 := Lib.hid (fun m_ => ((bs.specSd s x.Seq m_.w).mono fun _ _ h => ⟨by rw [h.1, HE1.out], h.2 ▸ Below.refl _ _⟩) : ∀ m_ : bx.Af wr, Calls Try.prog 43 #[.int .i64 s, .int .i64 x.Seq] m_.w fun e w' => e = .returned (.int .i64 e1) ∧ Below m_.w.heap.size m_.w w')
                have q2 := Lib.hid (fun m_ => ((bs.specSd s m m_.w).mono fun _ _ h => ⟨by rw [h.1, HSJ.out], h.2 ▸ Below.refl _ _⟩) : ∀ m_ : bx.Af wr, Calls Try.prog 43 #[.int .i64 s, .int .i64 m] m_.w fun e w' => e = .returned (.int .i64 (j : Int)) ∧ Below m_.w.heap.size m_.w w')
                refine bx.region_after (by kernel_rfl) (by kernel_rfl) ?_
                repeat (go_big_quiet_step (first | (go_at_call 43; with_reducible exact bx.Af.call (q1.out _)) | (go_at_call 43; with_reducible exact bx.Af.call (q2.out _))))
                refine wpQuiet_nil ?_
                intro _ hw'
                obtain ⟨nq9, hw''⟩ := hw'
                subst hw''
                clear mD0 mD1 mk0 q1 q2 g0 g0c g1
                obtain ⟨w6, hw5⟩ : ∃ w5, nq9.w = w5 := ⟨_, rfl⟩
                have hb := nq9.below
                rw [hw5] at hb
                (try rw [hw5])
                clear hw5
                have k0' : w6.cell? ⟨b, off + k * 2, none⟩ = some (.int .i64 x.Seq) := (hb.cell (World.block_lt_of_cell? _ _ k0)).trans k0
                clear k0
                have k0 := k0'
                clear k0'
                have SS6 := Lib.hid hb.size
                have B6 := Lib.hid (B5.out.trans (hb.mono B5.out.size))
                have X6 := Lib.hid (X5.out.below hb)
                have Z6 := Lib.hid (Z5.out.below hb)
                have D6 := Lib.hid (D5.out.below hb)
                have R6 := Lib.hid (R5.out.below hb)
                have Q6 := Lib.hid (Q5.out.below hb)
                have N6 := Lib.hid (N5.out.below hb)
                have O6 := Lib.hid (O5.out.below hb)
                clear hb nq9 B5 X5 Z5 D5 R5 Q5 N5 O5
                have hpl := place_at (x := x) HTL.out HMJ.out (by rw [← HP.out.2.2.2.2, List.getElem?_drop]; exact HX.out)
                have cD1 : w6.cell? ⟨bc, 1, none⟩ = some (.slice (some ⟨b, off, none⟩) n3 c3) := D6.out.cell 1
                rcases hpl with hpl | hpl
                · have HR9 := Lib.hid (HSTILL.out x.Body hpl.2)
                  have g2 : (x.Seq == m) = true := beq_iff_eq.2 hpl.1
                  clear hpl
                  go_upto_region 12 with fail
                  clear cD1 k0 g2
                  go_wp2_with (first | (refine stw.list_load rfl 50 _ rfl (bc) rfl 50 _ D6.out Try.underlying50 rfl ux.szRob ?_) | (refine stw.list_store rfl 50 _ _ rfl (w.heap.size + 1) #[.int .i64 s, .slice (some ⟨b, off, none⟩) n3 c3] rfl rfl 50 _ Z6.out rfl ux.szRob (ux.oneRob _ _ _ _) ?_; intro wz hz))
                  have hB := hz.on B6.out (show w.heap.size ≤ w.heap.size + 1 by omega)
                  have hN := N6.out.same hz.below.size fun b h1 h2 => hz.other b (by have hlD := LD.out; have hlE := LE.out; have hs0 := LTX.out; have hs1 := LTZ.out; have hs2 := LHR.out; have hs3 := LHC.out; have hs4 := SS1.out; have hs5 := HCI.out; have hs6 := SS2.out; have hs7 := LWD.out; have hs8 := SS3.out; have hs9 := HF0.out; have hs10 := HBC.out; have hs11 := SS4.out; have hs12 := LWE.out; have hs13 := LUX5.out; have hs14 := LUZ5.out; have hs15 := LUD5.out; have hs16 := SBR5.out; have hs17 := SS6.out; first | omega | (simp <;> omega))
                  have hO := O6.out.same hz.below.size fun b h1 h2 => hz.other b (by have hlD := LD.out; have hlE := LE.out; have hs0 := LTX.out; have hs1 := LTZ.out; have hs2 := LHR.out; have hs3 := LHC.out; have hs4 := SS1.out; have hs5 := HCI.out; have hs6 := SS2.out; have hs7 := LWD.out; have hs8 := SS3.out; have hs9 := HF0.out; have hs10 := HBC.out; have hs11 := SS4.out; have hs12 := LWE.out; have hs13 := LUX5.out; have hs14 := LUZ5.out; have hs15 := LUD5.out; have hs16 := SBR5.out; have hs17 := SS6.out; first | omega | (simp <;> omega))
                  (try simp only [Exit.inBlock, Exit.then])
                  refine bodyPost_ret (v := .tuple #[.agg #[.int .i64 s, .slice (some ⟨b, off, none⟩) n3 c3], .slice (some ⟨be, 0, none⟩) 0 0]) ?_ rfl ?_
                  · rw [results_cell_tmp1 rfl]
                    exact stw.back2 hz.box Try.underlying50 rfl ux.szRob _
                  · rw [HR9.out]
                    exact ⟨_, _, _, _, _, _, rfl, hN.nf.rrm (fun b hb => by have h1 := hN.fi b hb; have h2 := hN.hi_; have h3 := HF0.out; have hlD := LD.out; have hlE := LE.out; have hs0 := LTX.out; have hs1 := LTZ.out; have hs2 := LHR.out; have hs3 := LHC.out; have hs4 := SS1.out; have hs5 := HCI.out; have hs6 := SS2.out; have hs7 := LWD.out; have hs8 := SS3.out; have hs9 := HF0.out; have hs10 := HBC.out; have hs11 := SS4.out; have hs12 := LWE.out; have hs13 := LUX5.out; have hs14 := LUZ5.out; have hs15 := LUD5.out; have hs16 := SBR5.out; have hs17 := SS6.out; omega), (hO.of_.lower (show w.heap.size ≤ _ by have hlD := LD.out; have hlE := LE.out; have hs0 := LTX.out; have hs1 := LTZ.out; have hs2 := LHR.out; have hs3 := LHC.out; have hs4 := SS1.out; have hs5 := HCI.out; have hs6 := SS2.out; have hs7 := LWD.out; have hs8 := SS3.out; have hs9 := HF0.out; have hs10 := HBC.out; have hs11 := SS4.out; have hs12 := LWE.out; have hs13 := LUX5.out; have hs14 := LUZ5.out; have hs15 := LUD5.out; have hs16 := SBR5.out; have hs17 := SS6.out; omega)).rr (Nat.le_refl _) (fun b hb => by have h1 := hO.fi b hb; have h2 := hO.hi_; have h3 := HF0.out; have hlD := LD.out; have hlE := LE.out; have hs0 := LTX.out; have hs1 := LTZ.out; have hs2 := LHR.out; have hs3 := LHC.out; have hs4 := SS1.out; have hs5 := HCI.out; have hs6 := SS2.out; have hs7 := LWD.out; have hs8 := SS3.out; have hs9 := HF0.out; have hs10 := HBC.out; have hs11 := SS4.out; have hs12 := LWE.out; have hs13 := LUX5.out; have hs14 := LUZ5.out; have hs15 := LUD5.out; have hs16 := SBR5.out; have hs17 := SS6.out; omega) (fun q hq => by have h1 := (hO.blk q hq).1; have h2 := hO.hi_; omega), hB⟩
                · have HW := Lib.hid hpl.2
                  have g2 : (x.Seq == m) = false := beq_false_of_ne hpl.1
                  clear hpl
                  obtain ⟨tk, htk⟩ : ∃ t, kp ws j zb = t := ⟨_, rfl⟩
                  have HINS := Lib.hid (show (pend s ws).take k ++ [⟨m, zb⟩] ++ (pend s ws).drop k = pend s tk by rw [← htk]; exact ins_data HW.out HMJ.out HP.out.2.2.2.1 HP.out.2.2.2.2)
                  have HTKL := Lib.hid (show tk.length = 16 by rw [← htk, kp_len]; exact HTL.out)
                  rw [htk] at HREC
                  clear htk
                  have HL13 := Lib.hid (show bc < w6.heap.size ∧ w.heap.size + 1 < w6.heap.size ∧ w1.heap.size ≤ w6.heap.size ∧ (be + 1) ≤ w6.heap.size by have h1 := D6.out.lt; have h2 := Z6.out.lt; have h3 := N6.out.hi_; have h4 := O6.out.hi_; exact ⟨h1, h2, h3.1, h4.2.2⟩)
                  go_upto_region 13 with fail
                  have hbx := bx.below_box w6 (.cells #[] 5)
                  go_upto_region 14 with (first | (at_builtin; refine list_app0 rfl _ _ 22 rfl 5 _ _ .u8 Try.underlying22 HY8.out.1 HY8.out.2.1 HY8.out.2.2.1 (by rw [HY8.out.2.2.2]; omega) rfl rfl rfl (Ow.empty _ _ _) (ux.rd_of (Q6.out.below hbx)) (by omega) (by have h9 := hbx.size; omega) ?_; intro A4 c4 w4 ho4 hb4) | (refine stw.list_store rfl 90 _ _ rfl (w4.heap.size) #[.int .i64 m, .slice A4 nb c4] rfl rfl 90 _ (Bx.made _ _ _) rfl ux.szNf (ux.oneNf _ _ _ _) ?_; intro wz hz))
                  have hb14 := hbx.trans (hb4.mono hbx.size)
                  obtain ⟨bf, hbf⟩ : ∃ b, w4.heap.size = b := ⟨_, rfl⟩
                  have HBFL := Lib.hid (show w6.heap.size ≤ bf by rw [← hbf]; exact hb14.size)
                  have hb := hz.on (hb14.trans ((bx.below_box w4 (.cells #[.int .i64 0, .slice none 0 0] 90)).mono hb14.size)) hb14.size
                  have hro := (ho4.rd.below (bx.below_box w4 (.cells #[.int .i64 0, .slice none 0 0] 90))).same hz.below.size fun b h1 h2 => hz.other b (by omega)
                  have hbb4 : BF (In w6.heap.size bf) wz A4 nb c4 zb := BF.of_rd hro (fun b h1 h2 => ⟨h1, by rw [← hbf]; exact h2⟩)
                  have hvx := hz.box
                  (try rw [hbf] at hvx)
                  (try rw [hbf])
                  have HB4 := Lib.hid hbb4
                  have HV4 := Lib.hid hvx
                  clear hbx ho4 hb4 hb14 hbf hz hro hbb4 hvx
                  have SS7 := Lib.hid hb.size
                  clear cD1 k0 g2
                  have B7 := Lib.hid (B6.out.trans (hb.mono B6.out.size))
                  have X7 := Lib.hid (X6.out.below hb)
                  have Z7 := Lib.hid (Z6.out.below hb)
                  have D7 := Lib.hid (D6.out.below hb)
                  have R7 := Lib.hid (R6.out.below hb)
                  have Q7 := Lib.hid (Q6.out.below hb)
                  have N7 := Lib.hid (N6.out.below hb)
                  have O7 := Lib.hid (O6.out.below hb)
                  clear hb B6 X6 Z6 D6 R6 Q6 N6 O6
                  have V7 := Lib.hid HV4.out
                  have HBV := Lib.hid (show bf < wz.heap.size from V7.out.lt)
                  obtain ⟨F3, hF3⟩ : ∃ F : Nat → Prop, (fun b => FF b ∨ In w6.heap.size bf b) = F := ⟨_, rfl⟩
                  have HFA := Lib.hid (show ∀ b, FF b → F3 b by rw [← hF3]; exact fun b hb => .inl hb)
                  have HFB := Lib.hid (show ∀ b, F3 b → (FF b ∨ (w6.heap.size ≤ b ∧ b < bf)) by rw [← hF3]; exact fun b hb => hb)
                  have hfb : ∀ b, F3 b → b < wz.heap.size := fun b hb => by have h0 := N7.out.hi_; rcases HFB.out b hb with h1 | h1; (have h2 := N7.out.fi b h1; omega); (have hlD := LD.out; have hlE := LE.out; have hs0 := LTX.out; have hs1 := LTZ.out; have hs2 := LHR.out; have hs3 := LHC.out; have hs4 := SS1.out; have hs5 := HCI.out; have hs6 := SS2.out; have hs7 := LWD.out; have hs8 := SS3.out; have hs9 := HF0.out; have hs10 := HBC.out; have hs11 := SS4.out; have hs12 := LWE.out; have hs13 := LUX5.out; have hs14 := LUZ5.out; have hs15 := LUD5.out; have hs16 := SBR5.out; have hs17 := SS6.out; have hs18 := HL13.out; have hs19 := SS7.out; have hs20 := HBFL.out; have hs21 := HBV.out; omega)
                  have N14 := Lib.hid (N7.out.nf.mono HFA.out)
                  have B14 := Lib.hid (HB4.out.mono (G := F3) (by rw [← hF3]; exact fun b hb => .inr hb))
                  have HFC := Lib.hid hfb
                  clear hF3 hfb
                  obtain ⟨A7, hA7, hs7⟩ := nf_pre (k := k) (some ⟨b, off, none⟩) HKN.out HLN.out.2.1
                  obtain ⟨A8, hA8, hs8⟩ := nf_post (k := k) (some ⟨b, off, none⟩) HKN.out HLN.out.2.1
                  have HA7 := Lib.hid hA7
                  have HA8 := Lib.hid hA8
                  have HS7 := Lib.hid hs7
                  have HS8 := Lib.hid hs8
                  clear hA7 hA8 hs7 hs8
                  refine reg.region_tailX (E14 wz.heap.size k) 14 111 [some [], some [], some [(1, 92)], some [], some [(2, 93), (3, 94)], some [(0, 91), (4, 95)], some [], some [(6, 97)], some [(5, 96), (7, 98)], some [], some [(9, 100)], some [], some [(10, 101), (11, 102)], some [(8, 99), (12, 103)], none, none] [(0, 91), (1, 92), (2, 93), (3, 94), (4, 95), (5, 96), (6, 97), (7, 98), (8, 99), (9, 100), (10, 101), (11, 102), (12, 103), (13, 104)]
                    (fun w' => Below wz.heap.size wz w')
                    (R14 F3 wz.heap.size k n3 (pend s ws) (⟨m, zb⟩ : Nf) A4 nb c4 [(1, .pointer (some ⟨bc, 1, none⟩)), (2, .slice (some ⟨b, off, none⟩) n3 c3), (3, .int .i64 ((k : Int))), (4, .slice A7 k c3), (6, .agg #[.int .i64 m, .slice A4 nb c4]), (9, .pointer (some ⟨bc, 1, none⟩)), (10, .slice (some ⟨b, off, none⟩) n3 c3), (11, .int .i64 ((k : Int))), (12, .slice A8 (n3 - k) (c3 - k))])
                    (by kernel_rfl) rfl (by kernel_rfl) (by kernel_rfl) rfl
                    (fun i w1 w2 hc he => hc.trans he.1) (r14_keep (by kernel_rfl) HFC.out) (own.below_drew (Below.refl _ _)) (by kernel_rfl) ⟨?_, ?_, ?_, ?_, ?_, ?_, ?_, ?_, ?_, ?_, ?_, ?_, ?_, ?_, trivial⟩ ?_
                  · refine fun w8 hc  K hK => ?_
                    (try simp only [Act.put, List.setIfInBounds_toArray, List.set_cons_zero, List.set_cons_succ])
                    have hge : wz.heap.size ≤ w8.heap.size := hc.size
                    go_simp
                    exact hK (.slice (some ⟨w8.heap.size, 0, none⟩) 0 0) _ (GF.empty F3 (Bx.made _ _ _) hge) (Gr.of_below (bx.below_box _ _) hge)
                  · refine fun w8 hc  K hK => ?_
                    (try simp only [Act.put, List.setIfInBounds_toArray, List.set_cons_zero, List.set_cons_succ])
                    go_simp
                    exact hK (.pointer (some ⟨bc, 1, none⟩)) _ rfl (Gr.refl _)
                  · refine fun w8 hc v1 h1 K hK => ?_
                    obtain rfl : v1 = .pointer (some ⟨bc, 1, none⟩) := h1
                    (try simp only [Act.put, List.setIfInBounds_toArray, List.set_cons_zero, List.set_cons_succ])
                    have c0 : w8.cell? ⟨bc, 1, none⟩ = some (.slice (some ⟨b, off, none⟩) n3 c3) := (D7.out.below hc).cell 1
                    go_simp
                    exact hK (.slice (some ⟨b, off, none⟩) n3 c3) _ rfl (Gr.refl _)
                  · refine fun w8 hc  K hK => ?_
                    (try simp only [Act.put, List.setIfInBounds_toArray, List.set_cons_zero, List.set_cons_succ])
                    go_simp
                    exact hK (.int .i64 ((k : Int))) _ rfl (Gr.refl _)
                  · refine fun w8 hc v2 h2 v3 h3 K hK => ?_
                    obtain rfl : v2 = .slice (some ⟨b, off, none⟩) n3 c3 := h2
                    obtain rfl : v3 = .int .i64 ((k : Int)) := h3
                    (try simp only [Act.put, List.setIfInBounds_toArray, List.set_cons_zero, List.set_cons_succ])
                    have hs7 := HS7.out
                    go_simp
                    exact hK (.slice A7 k c3) _ rfl (Gr.refl _)
                  · refine fun w8 hc v0 h0 v4 h4 K hK => ?_
                    have j0 : GF F3 wz.heap.size w8 0 [] v0 := h0
                    clear h0
                    obtain ⟨Ax0, cx0, rfl, j0⟩ := GF.open_ j0
                    obtain rfl : v4 = .slice A7 k c3 := h4
                    (try simp only [Act.put, List.setIfInBounds_toArray, List.set_cons_zero, List.set_cons_succ])
                    have hge : wz.heap.size ≤ w8.heap.size := hc.size
                    rw [if_pos (by rfl)]
                    refine wp_gf _ _ rfl rfl rfl j0 HFC.out hge ((N14.out.below hc).take HKN.out HA7.out).src (by have h9 := HKN.out; have h8 := HN16.out; omega) ?_
                    intro A5 c5 w5 hg hgr
                    rw [Nat.zero_add] at hg ⊢
                    exact hK _ _ hg hgr
                  · refine fun w8 hc  K hK => ?_
                    (try simp only [Act.put, List.setIfInBounds_toArray, List.set_cons_zero, List.set_cons_succ])
                    rw [if_pos (by rfl)]
                    refine stw.wp_load_bx 90 _ rfl bf rfl 90 _ (V7.out.below hc) Try.underlying90 rfl ux.szNf ?_
                    exact hK _ _ rfl (Gr.refl _)
                  · refine fun w8 hc v6 h6 K hK => ?_
                    obtain rfl : v6 = .agg #[.int .i64 m, .slice A4 nb c4] := h6
                    (try simp only [Act.put, List.setIfInBounds_toArray, List.set_cons_zero, List.set_cons_succ])
                    have hge : wz.heap.size ≤ w8.heap.size := hc.size
                    go_simp
                    exact hK (.slice (some ⟨w8.heap.size, 0, none⟩) 1 1) _ ⟨_, rfl, Bx.made _ _ _⟩ (Gr.of_below (bx.below_box _ _) hge)
                  · refine fun w8 hc v5 h5 v7 h7 K hK => ?_
                    have j5 : GF F3 wz.heap.size w8 k ((pend s ws).take k) v5 := h5
                    clear h5
                    obtain ⟨Ax5, cx5, rfl, j5⟩ := GF.open_ j5
                    obtain ⟨q7, rfl, h7⟩ : ∃ q, v7 = .slice (some ⟨q, 0, none⟩) 1 1 ∧ Bx 90 w8 q #[.int .i64 m, .slice A4 nb c4] := h7
                    (try simp only [Act.put, List.setIfInBounds_toArray, List.set_cons_zero, List.set_cons_succ])
                    have hge : wz.heap.size ≤ w8.heap.size := hc.size
                    rw [if_pos (by rfl)]
                    refine wp_gf _ _ rfl rfl rfl j5 HFC.out hge (src_one (x := (⟨m, zb⟩ : Nf)) h7 (B14.out.below hc)) (by have h9 := HKN.out; have h8 := HN16.out; omega) ?_
                    intro A5 c5 w5 hg hgr
                    exact hK _ _ hg hgr
                  · refine fun w8 hc  K hK => ?_
                    (try simp only [Act.put, List.setIfInBounds_toArray, List.set_cons_zero, List.set_cons_succ])
                    go_simp
                    exact hK (.pointer (some ⟨bc, 1, none⟩)) _ rfl (Gr.refl _)
                  · refine fun w8 hc v9 h9 K hK => ?_
                    obtain rfl : v9 = .pointer (some ⟨bc, 1, none⟩) := h9
                    (try simp only [Act.put, List.setIfInBounds_toArray, List.set_cons_zero, List.set_cons_succ])
                    have c0 : w8.cell? ⟨bc, 1, none⟩ = some (.slice (some ⟨b, off, none⟩) n3 c3) := (D7.out.below hc).cell 1
                    go_simp
                    exact hK (.slice (some ⟨b, off, none⟩) n3 c3) _ rfl (Gr.refl _)
                  · refine fun w8 hc  K hK => ?_
                    (try simp only [Act.put, List.setIfInBounds_toArray, List.set_cons_zero, List.set_cons_succ])
                    go_simp
                    exact hK (.int .i64 ((k : Int))) _ rfl (Gr.refl _)
                  · refine fun w8 hc v10 h10 v11 h11 K hK => ?_
                    obtain rfl : v10 = .slice (some ⟨b, off, none⟩) n3 c3 := h10
                    obtain rfl : v11 = .int .i64 ((k : Int)) := h11
                    (try simp only [Act.put, List.setIfInBounds_toArray, List.set_cons_zero, List.set_cons_succ])
                    have hs8 := HS8.out
                    go_simp
                    exact hK (.slice A8 (n3 - k) (c3 - k)) _ rfl (Gr.refl _)
                  · refine fun w8 hc v8 h8 v12 h12 K hK => ?_
                    have j8 : GF F3 wz.heap.size w8 (k + 1) ((pend s ws).take k ++ [(⟨m, zb⟩ : Nf)]) v8 := h8
                    clear h8
                    obtain ⟨Ax8, cx8, rfl, j8⟩ := GF.open_ j8
                    obtain rfl : v12 = .slice A8 (n3 - k) (c3 - k) := h12
                    (try simp only [Act.put, List.setIfInBounds_toArray, List.set_cons_zero, List.set_cons_succ])
                    have hge : wz.heap.size ≤ w8.heap.size := hc.size
                    rw [if_pos (by rfl)]
                    refine wp_gf _ _ rfl rfl rfl j8 HFC.out hge ((N14.out.below hc).drop HKN.out HA8.out).src (by have h9 := HKN.out; have h8 := HN16.out; omega) ?_
                    intro A5 c5 w5 hg hgr
                    rw [show k + 1 + (n3 - k) = n3 + 1 by have h9 := HKN.out; omega] at hg ⊢
                    exact hK _ _ hg hgr
                  refine fun wx9 hc v0 h0 v1 h1 v2 h2 v3 h3 v4 h4 v5 h5 v6 h6 v7 h7 v8 h8 v9 h9 v10 h10 v11 h11 v12 h12 v13 h13 => ?_
                  have j0 : GF F3 wz.heap.size wx9 0 [] v0 := h0
                  clear h0
                  obtain ⟨Ax0, cx0, rfl, j0⟩ := GF.open_ j0
                  obtain rfl : v1 = .pointer (some ⟨bc, 1, none⟩) := h1
                  obtain rfl : v2 = .slice (some ⟨b, off, none⟩) n3 c3 := h2
                  obtain rfl : v3 = .int .i64 ((k : Int)) := h3
                  obtain rfl : v4 = .slice A7 k c3 := h4
                  have j5 : GF F3 wz.heap.size wx9 k ((pend s ws).take k) v5 := h5
                  clear h5
                  obtain ⟨Ax5, cx5, rfl, j5⟩ := GF.open_ j5
                  obtain rfl : v6 = .agg #[.int .i64 m, .slice A4 nb c4] := h6
                  obtain ⟨q7, rfl, h7⟩ : ∃ q, v7 = .slice (some ⟨q, 0, none⟩) 1 1 ∧ Bx 90 wx9 q #[.int .i64 m, .slice A4 nb c4] := h7
                  have j8 : GF F3 wz.heap.size wx9 (k + 1) ((pend s ws).take k ++ [(⟨m, zb⟩ : Nf)]) v8 := h8
                  clear h8
                  obtain ⟨Ax8, cx8, rfl, j8⟩ := GF.open_ j8
                  obtain rfl : v9 = .pointer (some ⟨bc, 1, none⟩) := h9
                  obtain rfl : v10 = .slice (some ⟨b, off, none⟩) n3 c3 := h10
                  obtain rfl : v11 = .int .i64 ((k : Int)) := h11
                  obtain rfl : v12 = .slice A8 (n3 - k) (c3 - k) := h12
                  have j13 : GF F3 wz.heap.size wx9 (n3 + 1) ((pend s ws).take k ++ [(⟨m, zb⟩ : Nf)] ++ (pend s ws).drop k) v13 := h13
                  clear h13
                  obtain ⟨Ax13, cx13, rfl, j13⟩ := GF.open_ j13
                  (try simp only [reg.Obs])
                  (try simp only [Act.put, List.setIfInBounds_toArray, List.set_cons_zero, List.set_cons_succ])
                  simp only [List.drop_succ_cons, List.drop_zero]
                  have HG13 := Lib.hid j13
                  clear j0 j5 h7 j8 j13
                  have hb := hc
                  clear hc
                  have SS8 := Lib.hid hb.size
                  have B8 := Lib.hid (B7.out.trans (hb.mono B7.out.size))
                  have X8 := Lib.hid (X7.out.below hb)
                  have Z8 := Lib.hid (Z7.out.below hb)
                  have D8 := Lib.hid (D7.out.below hb)
                  have V8 := Lib.hid (V7.out.below hb)
                  have R8 := Lib.hid (R7.out.below hb)
                  have Q8 := Lib.hid (Q7.out.below hb)
                  have O8 := Lib.hid (O7.out.below hb)
                  clear hb B7 X7 Z7 D7 V7 R7 Q7 O7
                  have HG9 := Lib.hid (show wz.heap.size ≤ wx9.heap.size from SS8.out)
                  obtain ⟨F5, hF5⟩ : ∃ F : Nat → Prop, (fun b => F3 b ∨ In wz.heap.size wx9.heap.size b) = F := ⟨_, rfl⟩
                  have HF5 := Lib.hid (show ∀ b, F5 b → (FF b ∨ (w6.heap.size ≤ b ∧ b < wx9.heap.size)) by rw [← hF5]; exact fun b hb => by rcases hb with h1 | h1; (rcases HFB.out b h1 with h2 | h2; exact .inl h2; exact .inr (by have hlD := LD.out; have hlE := LE.out; have hs0 := LTX.out; have hs1 := LTZ.out; have hs2 := LHR.out; have hs3 := LHC.out; have hs4 := SS1.out; have hs5 := HCI.out; have hs6 := SS2.out; have hs7 := LWD.out; have hs8 := SS3.out; have hs9 := HF0.out; have hs10 := HBC.out; have hs11 := SS4.out; have hs12 := LWE.out; have hs13 := LUX5.out; have hs14 := LUZ5.out; have hs15 := LUD5.out; have hs16 := SBR5.out; have hs17 := SS6.out; have hs18 := HL13.out; have hs19 := SS7.out; have hs20 := HBFL.out; have hs21 := HBV.out; have hs22 := SS8.out; constructor <;> omega)); exact .inr (by have h2 := h1.1; have h3 := h1.2; have hlD := LD.out; have hlE := LE.out; have hs0 := LTX.out; have hs1 := LTZ.out; have hs2 := LHR.out; have hs3 := LHC.out; have hs4 := SS1.out; have hs5 := HCI.out; have hs6 := SS2.out; have hs7 := LWD.out; have hs8 := SS3.out; have hs9 := HF0.out; have hs10 := HBC.out; have hs11 := SS4.out; have hs12 := LWE.out; have hs13 := LUX5.out; have hs14 := LUZ5.out; have hs15 := LUD5.out; have hs16 := SBR5.out; have hs17 := SS6.out; have hs18 := HL13.out; have hs19 := SS7.out; have hs20 := HBFL.out; have hs21 := HBV.out; have hs22 := SS8.out; constructor <;> omega))
                  have hgb := HG13.out.blk
                  have N8 := Lib.hid (show Nrow F5 w0.heap.size w1.heap.size w6.heap.size wx9.heap.size wx9 Ax13 (n3 + 1) cx13 (pend s tk) from ⟨fun b hb => (HF5.out b hb).elim (fun h1 => .inl (by have h2 := O8.out.fi b h1; omega)) .inr, ⟨by have h1 := O8.out.hi_; omega, Nat.le_refl _⟩, by rw [← HINS.out]; exact HG13.out.nf (fun b hb => by rw [← hF5]; exact .inl hb) (fun g hg => by rw [← hF5]; exact .inr (hgb.1 g hg)) hgb.2.1 HFC.out⟩)
                  have P8 := Lib.hid (show Orow F5 w0.heap.size w1.heap.size w6.heap.size wx9.heap.size be (be + 1) wx9 (some ⟨be, 0, none⟩) 0 0 ([] : List (List Int)) from ⟨N8.out.fi, ⟨N8.out.hi_.1, N8.out.hi_.2, O8.out.hi_.2.2⟩, O8.out.of_.mono (fun b hb => by rw [← hF5]; exact .inl (HFA.out b hb)), fun g hg => ⟨(O8.out.blk g hg).1, fun h9 => by have h1 := O8.out.blk g hg; rcases HF5.out g h9 with h2 | h2; exact h1.2 h2; (have h3 := h1.1; have hlD := LD.out; have hlE := LE.out; have hs0 := LTX.out; have hs1 := LTZ.out; have hs2 := LHR.out; have hs3 := LHC.out; have hs4 := SS1.out; have hs5 := HCI.out; have hs6 := SS2.out; have hs7 := LWD.out; have hs8 := SS3.out; have hs9 := HF0.out; have hs10 := HBC.out; have hs11 := SS4.out; have hs12 := LWE.out; have hs13 := LUX5.out; have hs14 := LUZ5.out; have hs15 := LUD5.out; have hs16 := SBR5.out; have hs17 := SS6.out; have hs18 := HL13.out; have hs19 := SS7.out; have hs20 := HBFL.out; have hs21 := HBV.out; have hs22 := SS8.out; omega)⟩⟩)
                  clear hgb hF5 O8
                  have cD1 : wx9.cell? ⟨bc, 1, none⟩ = some (.slice (some ⟨b, off, none⟩) n3 c3) := D8.out.cell 1
                  have fD1 : wx9.frozen? ⟨bc, 1, none⟩ = false := D8.out.free 1
                  go_upto_region 15 with fail
                  clear cD1 fD1
                  have hWW : (wx9.setCell ⟨bc, 1, none⟩ (.slice Ax13 (n3 + 1) cx13)) = (wx9.setCell ⟨bc, 1, none⟩ (.slice Ax13 (n3 + 1) cx13)) := rfl
                  obtain ⟨w9, hW⟩ : ∃ wy, (wx9.setCell ⟨bc, 1, none⟩ (.slice Ax13 (n3 + 1) cx13)) = wy := ⟨_, rfl⟩
                  rw [hW]
                  clear hWW
                  have B9 := Lib.hid (show Below w.heap.size w w9 by rw [← hW]; exact (B8.out.setCell (p := ⟨bc, 1, none⟩) (by have hlD := LD.out; have hlE := LE.out; have hs0 := LTX.out; have hs1 := LTZ.out; have hs2 := LHR.out; have hs3 := LHC.out; have hs4 := SS1.out; have hs5 := HCI.out; have hs6 := SS2.out; have hs7 := LWD.out; have hs8 := SS3.out; have hs9 := HF0.out; have hs10 := HBC.out; have hs11 := SS4.out; have hs12 := LWE.out; have hs13 := LUX5.out; have hs14 := LUZ5.out; have hs15 := LUD5.out; have hs16 := SBR5.out; have hs17 := SS6.out; have hs18 := HL13.out; have hs19 := SS7.out; have hs20 := HBFL.out; have hs21 := HBV.out; have hs22 := SS8.out; first | omega | (simp <;> omega)) _))
                  have X9 := Lib.hid (show Bx 50 w9 (w.heap.size) #[.int .i64 s, .slice A n c] by rw [← hW]; exact (X8.out.other (by have hlD := LD.out; have hlE := LE.out; have hs0 := LTX.out; have hs1 := LTZ.out; have hs2 := LHR.out; have hs3 := LHC.out; have hs4 := SS1.out; have hs5 := HCI.out; have hs6 := SS2.out; have hs7 := LWD.out; have hs8 := SS3.out; have hs9 := HF0.out; have hs10 := HBC.out; have hs11 := SS4.out; have hs12 := LWE.out; have hs13 := LUX5.out; have hs14 := LUZ5.out; have hs15 := LUD5.out; have hs16 := SBR5.out; have hs17 := SS6.out; have hs18 := HL13.out; have hs19 := SS7.out; have hs20 := HBFL.out; have hs21 := HBV.out; have hs22 := SS8.out; first | omega | (simp <;> omega)) _ _))
                  have Z9 := Lib.hid (show Bx 50 w9 (w.heap.size + 1) #[.int .i64 0, .slice none 0 0] by rw [← hW]; exact (Z8.out.other (by have hlD := LD.out; have hlE := LE.out; have hs0 := LTX.out; have hs1 := LTZ.out; have hs2 := LHR.out; have hs3 := LHC.out; have hs4 := SS1.out; have hs5 := HCI.out; have hs6 := SS2.out; have hs7 := LWD.out; have hs8 := SS3.out; have hs9 := HF0.out; have hs10 := HBC.out; have hs11 := SS4.out; have hs12 := LWE.out; have hs13 := LUX5.out; have hs14 := LUZ5.out; have hs15 := LUD5.out; have hs16 := SBR5.out; have hs17 := SS6.out; have hs18 := HL13.out; have hs19 := SS7.out; have hs20 := HBFL.out; have hs21 := HBV.out; have hs22 := SS8.out; first | omega | (simp <;> omega)) _ _))
                  have D9 := Lib.hid (show Bx 50 w9 (bc) #[.int .i64 s, .slice Ax13 (n3 + 1) cx13] by rw [← hW]; exact (D8.out.set 1 _))
                  have V9 := Lib.hid (show Bx 90 w9 (bf) #[.int .i64 m, .slice A4 nb c4] by rw [← hW]; exact (V8.out.other (by have hlD := LD.out; have hlE := LE.out; have hs0 := LTX.out; have hs1 := LTZ.out; have hs2 := LHR.out; have hs3 := LHC.out; have hs4 := SS1.out; have hs5 := HCI.out; have hs6 := SS2.out; have hs7 := LWD.out; have hs8 := SS3.out; have hs9 := HF0.out; have hs10 := HBC.out; have hs11 := SS4.out; have hs12 := LWE.out; have hs13 := LUX5.out; have hs14 := LUZ5.out; have hs15 := LUD5.out; have hs16 := SBR5.out; have hs17 := SS6.out; have hs18 := HL13.out; have hs19 := SS7.out; have hs20 := HBFL.out; have hs21 := HBV.out; have hs22 := SS8.out; first | omega | (simp <;> omega)) _ _))
                  have R9 := Lib.hid (show RR rowNf w9 lo hi (.slice A n c) xs by rw [← hW]; exact (R8.out.same (by simp [World.setCell]) fun b h1 h2 => by rw [Below.heap_setCell _ _ _ _ (by have hlD := LD.out; have hlE := LE.out; have hs0 := LTX.out; have hs1 := LTZ.out; have hs2 := LHR.out; have hs3 := LHC.out; have hs4 := SS1.out; have hs5 := HCI.out; have hs6 := SS2.out; have hs7 := LWD.out; have hs8 := SS3.out; have hs9 := HF0.out; have hs10 := HBC.out; have hs11 := SS4.out; have hs12 := LWE.out; have hs13 := LUX5.out; have hs14 := LUZ5.out; have hs15 := LUD5.out; have hs16 := SBR5.out; have hs17 := SS6.out; have hs18 := HL13.out; have hs19 := SS7.out; have hs20 := HBFL.out; have hs21 := HBV.out; have hs22 := SS8.out; first | omega | (simp <;> omega))]))
                  have Q9 := Lib.hid (show RR ux.bytes w9 lo2 hi2 (.slice Ab nb cb) zb by rw [← hW]; exact (Q8.out.same (by simp [World.setCell]) fun b h1 h2 => by rw [Below.heap_setCell _ _ _ _ (by have hlD := LD.out; have hlE := LE.out; have hs0 := LTX.out; have hs1 := LTZ.out; have hs2 := LHR.out; have hs3 := LHC.out; have hs4 := SS1.out; have hs5 := HCI.out; have hs6 := SS2.out; have hs7 := LWD.out; have hs8 := SS3.out; have hs9 := HF0.out; have hs10 := HBC.out; have hs11 := SS4.out; have hs12 := LWE.out; have hs13 := LUX5.out; have hs14 := LUZ5.out; have hs15 := LUD5.out; have hs16 := SBR5.out; have hs17 := SS6.out; have hs18 := HL13.out; have hs19 := SS7.out; have hs20 := HBFL.out; have hs21 := HBV.out; have hs22 := SS8.out; first | omega | (simp <;> omega))]))
                  have N9 := Lib.hid (show Nrow F5 w0.heap.size w1.heap.size w6.heap.size wx9.heap.size w9 Ax13 (n3 + 1) cx13 (pend s tk) by rw [← hW]; exact (N8.out.same (by simp [World.setCell]) fun b h1 h2 => by rw [Below.heap_setCell _ _ _ _ (by have hlD := LD.out; have hlE := LE.out; have hs0 := LTX.out; have hs1 := LTZ.out; have hs2 := LHR.out; have hs3 := LHC.out; have hs4 := SS1.out; have hs5 := HCI.out; have hs6 := SS2.out; have hs7 := LWD.out; have hs8 := SS3.out; have hs9 := HF0.out; have hs10 := HBC.out; have hs11 := SS4.out; have hs12 := LWE.out; have hs13 := LUX5.out; have hs14 := LUZ5.out; have hs15 := LUD5.out; have hs16 := SBR5.out; have hs17 := SS6.out; have hs18 := HL13.out; have hs19 := SS7.out; have hs20 := HBFL.out; have hs21 := HBV.out; have hs22 := SS8.out; first | omega | (simp <;> omega))]))
                  have P9 := Lib.hid (show Orow F5 w0.heap.size w1.heap.size w6.heap.size wx9.heap.size be (be + 1) w9 (some ⟨be, 0, none⟩) 0 0 ([] : List (List Int)) by rw [← hW]; exact (P8.out.same (by simp [World.setCell]) fun b h1 h2 => by rw [Below.heap_setCell _ _ _ _ (by have hlD := LD.out; have hlE := LE.out; have hs0 := LTX.out; have hs1 := LTZ.out; have hs2 := LHR.out; have hs3 := LHC.out; have hs4 := SS1.out; have hs5 := HCI.out; have hs6 := SS2.out; have hs7 := LWD.out; have hs8 := SS3.out; have hs9 := HF0.out; have hs10 := HBC.out; have hs11 := SS4.out; have hs12 := LWE.out; have hs13 := LUX5.out; have hs14 := LUZ5.out; have hs15 := LUD5.out; have hs16 := SBR5.out; have hs17 := SS6.out; have hs18 := HL13.out; have hs19 := SS7.out; have hs20 := HBFL.out; have hs21 := HBV.out; have hs22 := SS8.out; first | omega | (simp <;> omega))]))
                  clear hW B8 X8 Z8 D8 V8 R8 Q8 N8 P8
                  have cD0 : w9.cell? ⟨bc, 0, none⟩ = some (.int .i64 s) := D9.out.cell 0
                  have cD1 : w9.cell? ⟨bc, 1, none⟩ = some (.slice Ax13 (n3 + 1) cx13) := D9.out.cell 1
                  go_wp2_with (refine stw.list_load rfl 50 _ rfl (bc) rfl 50 _ D9.out Try.underlying50 rfl ux.szRob ?_)
                  clear cD0 cD1
                  (with_reducible refine (specRel F5 ⟨s, tk, ([] : List (List Int))⟩ be Ax13 (n3 + 1) cx13 (some ⟨be, 0, none⟩) 0 0 _ N9.out.nf P9.out.of_ (fun g hg => (P9.out.blk g hg).2) (fun b hb => by have h1 := N9.out.fi b hb; have h2 := N9.out.hi_; omega) HTS.out HTKL.out (by have h1 := P9.out.of_.len; have h2 := HTO.out; omega) (by have h1 := P9.out.hi_; have hlD := LD.out; have hlE := LE.out; have hs0 := LTX.out; have hs1 := LTZ.out; have hs2 := LHR.out; have hs3 := LHC.out; have hs4 := SS1.out; have hs5 := HCI.out; have hs6 := SS2.out; have hs7 := LWD.out; have hs8 := SS3.out; have hs9 := HF0.out; have hs10 := HBC.out; have hs11 := SS4.out; have hs12 := LWE.out; have hs13 := LUX5.out; have hs14 := LUZ5.out; have hs15 := LUD5.out; have hs16 := SBR5.out; have hs17 := SS6.out; have hs18 := HL13.out; have hs19 := SS7.out; have hs20 := HBFL.out; have hs21 := HBV.out; have hs22 := SS8.out; omega)).mono ?_)
                  rintro e wr5 hp
                  obtain ⟨A5, n5, c5, A6, n6, c6, rfl, hN, hO, hA, hK⟩ := rl_parts hp
                  clear hp
                  have HBK := Lib.hid (show ∀ q, q ∈ ux.blks (some ⟨be, 0, none⟩) → be ≤ q ∧ q < (be + 1) from fun q hq => (P9.out.blk q (in_blk hq)).1)
                  have SSR := Lib.hid hK.size
                  have BR := Lib.hid (B9.out.trans (ux.ks_bel hK (fun q hq => by have h1 := HBK.out q hq; have hlD := LD.out; have hlE := LE.out; have hs0 := LTX.out; have hs1 := LTZ.out; have hs2 := LHR.out; have hs3 := LHC.out; have hs4 := SS1.out; have hs5 := HCI.out; have hs6 := SS2.out; have hs7 := LWD.out; have hs8 := SS3.out; have hs9 := HF0.out; have hs10 := HBC.out; have hs11 := SS4.out; have hs12 := LWE.out; have hs13 := LUX5.out; have hs14 := LUZ5.out; have hs15 := LUD5.out; have hs16 := SBR5.out; have hs17 := SS6.out; have hs18 := HL13.out; have hs19 := SS7.out; have hs20 := HBFL.out; have hs21 := HBV.out; have hs22 := SS8.out; omega) B9.out.size))
                  have ZR := Lib.hid (ux.bx_ks Z9.out hK (fun hm => by have h1 := HBK.out _ hm; have hlD := LD.out; have hlE := LE.out; have hs0 := LTX.out; have hs1 := LTZ.out; have hs2 := LHR.out; have hs3 := LHC.out; have hs4 := SS1.out; have hs5 := HCI.out; have hs6 := SS2.out; have hs7 := LWD.out; have hs8 := SS3.out; have hs9 := HF0.out; have hs10 := HBC.out; have hs11 := SS4.out; have hs12 := LWE.out; have hs13 := LUX5.out; have hs14 := LUZ5.out; have hs15 := LUD5.out; have hs16 := SBR5.out; have hs17 := SS6.out; have hs18 := HL13.out; have hs19 := SS7.out; have hs20 := HBFL.out; have hs21 := HBV.out; have hs22 := SS8.out; omega))
                  have HFI5 := Lib.hid (show ∀ b, F5 b → (w0.heap.size ≤ b ∧ b < w1.heap.size) ∨ (w6.heap.size ≤ b ∧ b < wr5.heap.size) from fun b hb => by have h1 := N9.out.fi b hb; have h2 := N9.out.hi_; have h3 := hK.size; omega)
                  have HFS5 := Lib.hid (show w1.heap.size ≤ wr5.heap.size by have h2 := N9.out.hi_; have h3 := hK.size; omega)
                  have NR := Lib.hid hN
                  have OR := Lib.hid hO
                  clear hN hO hA hK
                  obtain ⟨r5, hr5⟩ : ∃ r, runS (⟨s, tk, ([] : List (List Int))⟩ : St) = r := ⟨_, rfl⟩
                  have HR5 := Lib.hid hr5
                  rw [hr5] at NR OR ⊢
                  clear hr5
                  go_wp2_with (refine stw.list_store rfl 50 _ _ rfl (w.heap.size + 1) #[.int .i64 r5.s, .slice A5 n5 c5] rfl rfl 50 _ ZR.out rfl ux.szRob (ux.oneRob _ _ _ _) ?_; intro wz9 hz)
                  have hB := hz.on BR.out (show w.heap.size ≤ w.heap.size + 1 by omega)
                  have HKZ := Lib.hid (show KS [w.heap.size + 1] wr5 wz9 from ⟨hz.below.os, hz.below.tape, hz.below.output, hz.below.size, fun q h1 h2 => hz.other q (fun e => h2 (List.mem_singleton.2 e))⟩)
                  have hN := NR.out.ks HKZ.out (fun q hq hm => by have h1 := List.mem_singleton.1 hm; have h2 := HFI5.out q hq; have h3 := HF0.out; have hlD := LD.out; have hlE := LE.out; have hs0 := LTX.out; have hs1 := LTZ.out; have hs2 := LHR.out; have hs3 := LHC.out; have hs4 := SS1.out; have hs5 := HCI.out; have hs6 := SS2.out; have hs7 := LWD.out; have hs8 := SS3.out; have hs9 := HF0.out; have hs10 := HBC.out; have hs11 := SS4.out; have hs12 := LWE.out; have hs13 := LUX5.out; have hs14 := LUZ5.out; have hs15 := LUD5.out; have hs16 := SBR5.out; have hs17 := SS6.out; have hs18 := HL13.out; have hs19 := SS7.out; have hs20 := HBFL.out; have hs21 := HBV.out; have hs22 := SS8.out; omega)
                  have hO := OR.out.ks HKZ.out (fun q hq hm => by have h1 := List.mem_singleton.1 hm; have h2 := HFI5.out q hq; have h3 := HF0.out; have hlD := LD.out; have hlE := LE.out; have hs0 := LTX.out; have hs1 := LTZ.out; have hs2 := LHR.out; have hs3 := LHC.out; have hs4 := SS1.out; have hs5 := HCI.out; have hs6 := SS2.out; have hs7 := LWD.out; have hs8 := SS3.out; have hs9 := HF0.out; have hs10 := HBC.out; have hs11 := SS4.out; have hs12 := LWE.out; have hs13 := LUX5.out; have hs14 := LUZ5.out; have hs15 := LUD5.out; have hs16 := SBR5.out; have hs17 := SS6.out; have hs18 := HL13.out; have hs19 := SS7.out; have hs20 := HBFL.out; have hs21 := HBV.out; have hs22 := SS8.out; omega) (fun q hq hm => by have h1 := List.mem_singleton.1 hm; have h2 := (OR.out.lt hq).1; have hlD := LD.out; have hlE := LE.out; have hs0 := LTX.out; have hs1 := LTZ.out; have hs2 := LHR.out; have hs3 := LHC.out; have hs4 := SS1.out; have hs5 := HCI.out; have hs6 := SS2.out; have hs7 := LWD.out; have hs8 := SS3.out; have hs9 := HF0.out; have hs10 := HBC.out; have hs11 := SS4.out; have hs12 := LWE.out; have hs13 := LUX5.out; have hs14 := LUZ5.out; have hs15 := LUD5.out; have hs16 := SBR5.out; have hs17 := SS6.out; have hs18 := HL13.out; have hs19 := SS7.out; have hs20 := HBFL.out; have hs21 := HBV.out; have hs22 := SS8.out; omega)
                  have hsz := hz.below.size
                  have hszr := SSR.out
                  have hfs := HFS5.out
                  (try simp only [Exit.inBlock, Exit.then])
                  refine bodyPost_ret (v := .tuple #[.agg #[.int .i64 r5.s, .slice A5 n5 c5], .slice A6 n6 c6]) ?_ rfl ?_
                  · rw [results_cell_tmp1 rfl]
                    exact stw.back2 hz.box Try.underlying50 rfl ux.szRob _
                  · rw [HREC.out, HR5.out]
                    exact ⟨A5, n5, c5, A6, n6, c6, rfl, hN.rrm (fun b hb => by have h1 := HFI5.out b hb; have h2 := HF0.out; have hlD := LD.out; have hlE := LE.out; have hs0 := LTX.out; have hs1 := LTZ.out; have hs2 := LHR.out; have hs3 := LHC.out; have hs4 := SS1.out; have hs5 := HCI.out; have hs6 := SS2.out; have hs7 := LWD.out; have hs8 := SS3.out; have hs9 := HF0.out; have hs10 := HBC.out; have hs11 := SS4.out; have hs12 := LWE.out; have hs13 := LUX5.out; have hs14 := LUZ5.out; have hs15 := LUD5.out; have hs16 := SBR5.out; have hs17 := SS6.out; have hs18 := HL13.out; have hs19 := SS7.out; have hs20 := HBFL.out; have hs21 := HBV.out; have hs22 := SS8.out; omega), (hO.lower (show w.heap.size ≤ _ by have hlD := LD.out; have hlE := LE.out; have hs0 := LTX.out; have hs1 := LTZ.out; have hs2 := LHR.out; have hs3 := LHC.out; have hs4 := SS1.out; have hs5 := HCI.out; have hs6 := SS2.out; have hs7 := LWD.out; have hs8 := SS3.out; have hs9 := HF0.out; have hs10 := HBC.out; have hs11 := SS4.out; have hs12 := LWE.out; have hs13 := LUX5.out; have hs14 := LUZ5.out; have hs15 := LUD5.out; have hs16 := SBR5.out; have hs17 := SS6.out; have hs18 := HL13.out; have hs19 := SS7.out; have hs20 := HBFL.out; have hs21 := HBV.out; have hs22 := SS8.out; omega)).rr (Nat.le_refl _) (fun b hb => by have h1 := HFI5.out b hb; have h2 := HF0.out; have hlD := LD.out; have hlE := LE.out; have hs0 := LTX.out; have hs1 := LTZ.out; have hs2 := LHR.out; have hs3 := LHC.out; have hs4 := SS1.out; have hs5 := HCI.out; have hs6 := SS2.out; have hs7 := LWD.out; have hs8 := SS3.out; have hs9 := HF0.out; have hs10 := HBC.out; have hs11 := SS4.out; have hs12 := LWE.out; have hs13 := LUX5.out; have hs14 := LUZ5.out; have hs15 := LUD5.out; have hs16 := SBR5.out; have hs17 := SS6.out; have hs18 := HL13.out; have hs19 := SS7.out; have hs20 := HBFL.out; have hs21 := HBV.out; have hs22 := SS8.out; omega) (fun q hq => (hO.lt hq).2), hB⟩
              · have hge9 : ¬ (k : Int) < (n3 : Int) := by omega
                have g0 : decide ((k : Int) < (n3 : Int)) = false := decide_eq_false hge9
                have g0c : decide (k < n3) = false := decide_eq_false hkn
                go_upto_region 9 with fail
                have mD1 : ∀ m : bx.Af wr, m.w.cell? ⟨bc, 1, none⟩ = some (.slice A3 n3 c3) := fun m => (bx.Af.cells D5.out m).cell 1
                refine bx.region_after (by kernel_rfl) (by kernel_rfl) ?_
                repeat (go_big_quiet_step (fail))
                refine wpQuiet_nil ?_
                intro _ hw'
                obtain ⟨nq9, hw''⟩ := hw'
                subst hw''
                clear mD1 g0 g0c
                obtain ⟨w6, hw5⟩ : ∃ w5, nq9.w = w5 := ⟨_, rfl⟩
                have hb := nq9.below
                rw [hw5] at hb
                (try rw [hw5])
                clear hw5
                have SS6 := Lib.hid hb.size
                have B6 := Lib.hid (B5.out.trans (hb.mono B5.out.size))
                have X6 := Lib.hid (X5.out.below hb)
                have Z6 := Lib.hid (Z5.out.below hb)
                have D6 := Lib.hid (D5.out.below hb)
                have R6 := Lib.hid (R5.out.below hb)
                have Q6 := Lib.hid (Q5.out.below hb)
                have N6 := Lib.hid (N5.out.below hb)
                have O6 := Lib.hid (O5.out.below hb)
                clear hb nq9 B5 X5 Z5 D5 R5 Q5 N5 O5
                have HW := Lib.hid (show ws[j]? = some none from none_end (by have h1 := HP.out.2.2.2.2; rw [List.drop_eq_nil_of_le (by have h2 := HLN.out.1; omega)] at h1; exact h1.symm) (by have h1 := HTL.out; have h2 := HJ.out; omega))
                have cD1 : w6.cell? ⟨bc, 1, none⟩ = some (.slice A3 n3 c3) := D6.out.cell 1
                obtain ⟨tk, htk⟩ : ∃ t, kp ws j zb = t := ⟨_, rfl⟩
                have HINS := Lib.hid (show (pend s ws).take k ++ [⟨m, zb⟩] ++ (pend s ws).drop k = pend s tk by rw [← htk]; exact ins_data HW.out HMJ.out HP.out.2.2.2.1 HP.out.2.2.2.2)
                have HTKL := Lib.hid (show tk.length = 16 by rw [← htk, kp_len]; exact HTL.out)
                rw [htk] at HREC
                clear htk
                have HL13 := Lib.hid (show bc < w6.heap.size ∧ w.heap.size + 1 < w6.heap.size ∧ w1.heap.size ≤ w6.heap.size ∧ (be + 1) ≤ w6.heap.size by have h1 := D6.out.lt; have h2 := Z6.out.lt; have h3 := N6.out.hi_; have h4 := O6.out.hi_; exact ⟨h1, h2, h3.1, h4.2.2⟩)
                go_upto_region 13 with fail
                have hbx := bx.below_box w6 (.cells #[] 5)
                go_upto_region 14 with (first | (at_builtin; refine list_app0 rfl _ _ 22 rfl 5 _ _ .u8 Try.underlying22 HY8.out.1 HY8.out.2.1 HY8.out.2.2.1 (by rw [HY8.out.2.2.2]; omega) rfl rfl rfl (Ow.empty _ _ _) (ux.rd_of (Q6.out.below hbx)) (by omega) (by have h9 := hbx.size; omega) ?_; intro A4 c4 w4 ho4 hb4) | (refine stw.list_store rfl 90 _ _ rfl (w4.heap.size) #[.int .i64 m, .slice A4 nb c4] rfl rfl 90 _ (Bx.made _ _ _) rfl ux.szNf (ux.oneNf _ _ _ _) ?_; intro wz hz))
                have hb14 := hbx.trans (hb4.mono hbx.size)
                obtain ⟨bf, hbf⟩ : ∃ b, w4.heap.size = b := ⟨_, rfl⟩
                have HBFL := Lib.hid (show w6.heap.size ≤ bf by rw [← hbf]; exact hb14.size)
                have hb := hz.on (hb14.trans ((bx.below_box w4 (.cells #[.int .i64 0, .slice none 0 0] 90)).mono hb14.size)) hb14.size
                have hro := (ho4.rd.below (bx.below_box w4 (.cells #[.int .i64 0, .slice none 0 0] 90))).same hz.below.size fun b h1 h2 => hz.other b (by omega)
                have hbb4 : BF (In w6.heap.size bf) wz A4 nb c4 zb := BF.of_rd hro (fun b h1 h2 => ⟨h1, by rw [← hbf]; exact h2⟩)
                have hvx := hz.box
                (try rw [hbf] at hvx)
                (try rw [hbf])
                have HB4 := Lib.hid hbb4
                have HV4 := Lib.hid hvx
                clear hbx ho4 hb4 hb14 hbf hz hro hbb4 hvx
                have SS7 := Lib.hid hb.size
                clear cD1
                have B7 := Lib.hid (B6.out.trans (hb.mono B6.out.size))
                have X7 := Lib.hid (X6.out.below hb)
                have Z7 := Lib.hid (Z6.out.below hb)
                have D7 := Lib.hid (D6.out.below hb)
                have R7 := Lib.hid (R6.out.below hb)
                have Q7 := Lib.hid (Q6.out.below hb)
                have N7 := Lib.hid (N6.out.below hb)
                have O7 := Lib.hid (O6.out.below hb)
                clear hb B6 X6 Z6 D6 R6 Q6 N6 O6
                have V7 := Lib.hid HV4.out
                have HBV := Lib.hid (show bf < wz.heap.size from V7.out.lt)
                obtain ⟨F3, hF3⟩ : ∃ F : Nat → Prop, (fun b => FF b ∨ In w6.heap.size bf b) = F := ⟨_, rfl⟩
                have HFA := Lib.hid (show ∀ b, FF b → F3 b by rw [← hF3]; exact fun b hb => .inl hb)
                have HFB := Lib.hid (show ∀ b, F3 b → (FF b ∨ (w6.heap.size ≤ b ∧ b < bf)) by rw [← hF3]; exact fun b hb => hb)
                have hfb : ∀ b, F3 b → b < wz.heap.size := fun b hb => by have h0 := N7.out.hi_; rcases HFB.out b hb with h1 | h1; (have h2 := N7.out.fi b h1; omega); (have hlD := LD.out; have hlE := LE.out; have hs0 := LTX.out; have hs1 := LTZ.out; have hs2 := LHR.out; have hs3 := LHC.out; have hs4 := SS1.out; have hs5 := HCI.out; have hs6 := SS2.out; have hs7 := LWD.out; have hs8 := SS3.out; have hs9 := HF0.out; have hs10 := HBC.out; have hs11 := SS4.out; have hs12 := LWE.out; have hs13 := LUX5.out; have hs14 := LUZ5.out; have hs15 := LUD5.out; have hs16 := SBR5.out; have hs17 := SS6.out; have hs18 := HL13.out; have hs19 := SS7.out; have hs20 := HBFL.out; have hs21 := HBV.out; omega)
                have N14 := Lib.hid (N7.out.nf.mono HFA.out)
                have B14 := Lib.hid (HB4.out.mono (G := F3) (by rw [← hF3]; exact fun b hb => .inr hb))
                have HFC := Lib.hid hfb
                clear hF3 hfb
                obtain ⟨A7, hA7, hs7⟩ := nf_pre (k := k) A3 HKN.out HLN.out.2.1
                obtain ⟨A8, hA8, hs8⟩ := nf_post (k := k) A3 HKN.out HLN.out.2.1
                have HA7 := Lib.hid hA7
                have HA8 := Lib.hid hA8
                have HS7 := Lib.hid hs7
                have HS8 := Lib.hid hs8
                clear hA7 hA8 hs7 hs8
                refine reg.region_tailX (E14 wz.heap.size k) 14 111 [some [], some [], some [(1, 92)], some [], some [(2, 93), (3, 94)], some [(0, 91), (4, 95)], some [], some [(6, 97)], some [(5, 96), (7, 98)], some [], some [(9, 100)], some [], some [(10, 101), (11, 102)], some [(8, 99), (12, 103)], none, none] [(0, 91), (1, 92), (2, 93), (3, 94), (4, 95), (5, 96), (6, 97), (7, 98), (8, 99), (9, 100), (10, 101), (11, 102), (12, 103), (13, 104)]
                  (fun w' => Below wz.heap.size wz w')
                  (R14 F3 wz.heap.size k n3 (pend s ws) (⟨m, zb⟩ : Nf) A4 nb c4 [(1, .pointer (some ⟨bc, 1, none⟩)), (2, .slice A3 n3 c3), (3, .int .i64 ((k : Int))), (4, .slice A7 k c3), (6, .agg #[.int .i64 m, .slice A4 nb c4]), (9, .pointer (some ⟨bc, 1, none⟩)), (10, .slice A3 n3 c3), (11, .int .i64 ((k : Int))), (12, .slice A8 (n3 - k) (c3 - k))])
                  (by kernel_rfl) rfl (by kernel_rfl) (by kernel_rfl) rfl
                  (fun i w1 w2 hc he => hc.trans he.1) (r14_keep (by kernel_rfl) HFC.out) (own.below_drew (Below.refl _ _)) (by kernel_rfl) ⟨?_, ?_, ?_, ?_, ?_, ?_, ?_, ?_, ?_, ?_, ?_, ?_, ?_, ?_, trivial⟩ ?_
                · refine fun w8 hc  K hK => ?_
                  (try simp only [Act.put, List.setIfInBounds_toArray, List.set_cons_zero, List.set_cons_succ])
                  have hge : wz.heap.size ≤ w8.heap.size := hc.size
                  go_simp
                  exact hK (.slice (some ⟨w8.heap.size, 0, none⟩) 0 0) _ (GF.empty F3 (Bx.made _ _ _) hge) (Gr.of_below (bx.below_box _ _) hge)
                · refine fun w8 hc  K hK => ?_
                  (try simp only [Act.put, List.setIfInBounds_toArray, List.set_cons_zero, List.set_cons_succ])
                  go_simp
                  exact hK (.pointer (some ⟨bc, 1, none⟩)) _ rfl (Gr.refl _)
                · refine fun w8 hc v1 h1 K hK => ?_
                  obtain rfl : v1 = .pointer (some ⟨bc, 1, none⟩) := h1
                  (try simp only [Act.put, List.setIfInBounds_toArray, List.set_cons_zero, List.set_cons_succ])
                  have c0 : w8.cell? ⟨bc, 1, none⟩ = some (.slice A3 n3 c3) := (D7.out.below hc).cell 1
                  go_simp
                  exact hK (.slice A3 n3 c3) _ rfl (Gr.refl _)
                · refine fun w8 hc  K hK => ?_
                  (try simp only [Act.put, List.setIfInBounds_toArray, List.set_cons_zero, List.set_cons_succ])
                  go_simp
                  exact hK (.int .i64 ((k : Int))) _ rfl (Gr.refl _)
                · refine fun w8 hc v2 h2 v3 h3 K hK => ?_
                  obtain rfl : v2 = .slice A3 n3 c3 := h2
                  obtain rfl : v3 = .int .i64 ((k : Int)) := h3
                  (try simp only [Act.put, List.setIfInBounds_toArray, List.set_cons_zero, List.set_cons_succ])
                  have hs7 := HS7.out
                  go_simp
                  exact hK (.slice A7 k c3) _ rfl (Gr.refl _)
                · refine fun w8 hc v0 h0 v4 h4 K hK => ?_
                  have j0 : GF F3 wz.heap.size w8 0 [] v0 := h0
                  clear h0
                  obtain ⟨Ax0, cx0, rfl, j0⟩ := GF.open_ j0
                  obtain rfl : v4 = .slice A7 k c3 := h4
                  (try simp only [Act.put, List.setIfInBounds_toArray, List.set_cons_zero, List.set_cons_succ])
                  have hge : wz.heap.size ≤ w8.heap.size := hc.size
                  rw [if_pos (by rfl)]
                  refine wp_gf _ _ rfl rfl rfl j0 HFC.out hge ((N14.out.below hc).take HKN.out HA7.out).src (by have h9 := HKN.out; have h8 := HN16.out; omega) ?_
                  intro A5 c5 w5 hg hgr
                  rw [Nat.zero_add] at hg ⊢
                  exact hK _ _ hg hgr
                · refine fun w8 hc  K hK => ?_
                  (try simp only [Act.put, List.setIfInBounds_toArray, List.set_cons_zero, List.set_cons_succ])
                  rw [if_pos (by rfl)]
                  refine stw.wp_load_bx 90 _ rfl bf rfl 90 _ (V7.out.below hc) Try.underlying90 rfl ux.szNf ?_
                  exact hK _ _ rfl (Gr.refl _)
                · refine fun w8 hc v6 h6 K hK => ?_
                  obtain rfl : v6 = .agg #[.int .i64 m, .slice A4 nb c4] := h6
                  (try simp only [Act.put, List.setIfInBounds_toArray, List.set_cons_zero, List.set_cons_succ])
                  have hge : wz.heap.size ≤ w8.heap.size := hc.size
                  go_simp
                  exact hK (.slice (some ⟨w8.heap.size, 0, none⟩) 1 1) _ ⟨_, rfl, Bx.made _ _ _⟩ (Gr.of_below (bx.below_box _ _) hge)
                · refine fun w8 hc v5 h5 v7 h7 K hK => ?_
                  have j5 : GF F3 wz.heap.size w8 k ((pend s ws).take k) v5 := h5
                  clear h5
                  obtain ⟨Ax5, cx5, rfl, j5⟩ := GF.open_ j5
                  obtain ⟨q7, rfl, h7⟩ : ∃ q, v7 = .slice (some ⟨q, 0, none⟩) 1 1 ∧ Bx 90 w8 q #[.int .i64 m, .slice A4 nb c4] := h7
                  (try simp only [Act.put, List.setIfInBounds_toArray, List.set_cons_zero, List.set_cons_succ])
                  have hge : wz.heap.size ≤ w8.heap.size := hc.size
                  rw [if_pos (by rfl)]
                  refine wp_gf _ _ rfl rfl rfl j5 HFC.out hge (src_one (x := (⟨m, zb⟩ : Nf)) h7 (B14.out.below hc)) (by have h9 := HKN.out; have h8 := HN16.out; omega) ?_
                  intro A5 c5 w5 hg hgr
                  exact hK _ _ hg hgr
                · refine fun w8 hc  K hK => ?_
                  (try simp only [Act.put, List.setIfInBounds_toArray, List.set_cons_zero, List.set_cons_succ])
                  go_simp
                  exact hK (.pointer (some ⟨bc, 1, none⟩)) _ rfl (Gr.refl _)
                · refine fun w8 hc v9 h9 K hK => ?_
                  obtain rfl : v9 = .pointer (some ⟨bc, 1, none⟩) := h9
                  (try simp only [Act.put, List.setIfInBounds_toArray, List.set_cons_zero, List.set_cons_succ])
                  have c0 : w8.cell? ⟨bc, 1, none⟩ = some (.slice A3 n3 c3) := (D7.out.below hc).cell 1
                  go_simp
                  exact hK (.slice A3 n3 c3) _ rfl (Gr.refl _)
                · refine fun w8 hc  K hK => ?_
                  (try simp only [Act.put, List.setIfInBounds_toArray, List.set_cons_zero, List.set_cons_succ])
                  go_simp
                  exact hK (.int .i64 ((k : Int))) _ rfl (Gr.refl _)
                · refine fun w8 hc v10 h10 v11 h11 K hK => ?_
                  obtain rfl : v10 = .slice A3 n3 c3 := h10
                  obtain rfl : v11 = .int .i64 ((k : Int)) := h11
                  (try simp only [Act.put, List.setIfInBounds_toArray, List.set_cons_zero, List.set_cons_succ])
                  have hs8 := HS8.out
                  go_simp
                  exact hK (.slice A8 (n3 - k) (c3 - k)) _ rfl (Gr.refl _)
                · refine fun w8 hc v8 h8 v12 h12 K hK => ?_
                  have j8 : GF F3 wz.heap.size w8 (k + 1) ((pend s ws).take k ++ [(⟨m, zb⟩ : Nf)]) v8 := h8
                  clear h8
                  obtain ⟨Ax8, cx8, rfl, j8⟩ := GF.open_ j8
                  obtain rfl : v12 = .slice A8 (n3 - k) (c3 - k) := h12
                  (try simp only [Act.put, List.setIfInBounds_toArray, List.set_cons_zero, List.set_cons_succ])
                  have hge : wz.heap.size ≤ w8.heap.size := hc.size
                  rw [if_pos (by rfl)]
                  refine wp_gf _ _ rfl rfl rfl j8 HFC.out hge ((N14.out.below hc).drop HKN.out HA8.out).src (by have h9 := HKN.out; have h8 := HN16.out; omega) ?_
                  intro A5 c5 w5 hg hgr
                  rw [show k + 1 + (n3 - k) = n3 + 1 by have h9 := HKN.out; omega] at hg ⊢
                  exact hK _ _ hg hgr
                refine fun wx9 hc v0 h0 v1 h1 v2 h2 v3 h3 v4 h4 v5 h5 v6 h6 v7 h7 v8 h8 v9 h9 v10 h10 v11 h11 v12 h12 v13 h13 => ?_
                have j0 : GF F3 wz.heap.size wx9 0 [] v0 := h0
                clear h0
                obtain ⟨Ax0, cx0, rfl, j0⟩ := GF.open_ j0
                obtain rfl : v1 = .pointer (some ⟨bc, 1, none⟩) := h1
                obtain rfl : v2 = .slice A3 n3 c3 := h2
                obtain rfl : v3 = .int .i64 ((k : Int)) := h3
                obtain rfl : v4 = .slice A7 k c3 := h4
                have j5 : GF F3 wz.heap.size wx9 k ((pend s ws).take k) v5 := h5
                clear h5
                obtain ⟨Ax5, cx5, rfl, j5⟩ := GF.open_ j5
                obtain rfl : v6 = .agg #[.int .i64 m, .slice A4 nb c4] := h6
                obtain ⟨q7, rfl, h7⟩ : ∃ q, v7 = .slice (some ⟨q, 0, none⟩) 1 1 ∧ Bx 90 wx9 q #[.int .i64 m, .slice A4 nb c4] := h7
                have j8 : GF F3 wz.heap.size wx9 (k + 1) ((pend s ws).take k ++ [(⟨m, zb⟩ : Nf)]) v8 := h8
                clear h8
                obtain ⟨Ax8, cx8, rfl, j8⟩ := GF.open_ j8
                obtain rfl : v9 = .pointer (some ⟨bc, 1, none⟩) := h9
                obtain rfl : v10 = .slice A3 n3 c3 := h10
                obtain rfl : v11 = .int .i64 ((k : Int)) := h11
                obtain rfl : v12 = .slice A8 (n3 - k) (c3 - k) := h12
                have j13 : GF F3 wz.heap.size wx9 (n3 + 1) ((pend s ws).take k ++ [(⟨m, zb⟩ : Nf)] ++ (pend s ws).drop k) v13 := h13
                clear h13
                obtain ⟨Ax13, cx13, rfl, j13⟩ := GF.open_ j13
                (try simp only [reg.Obs])
                (try simp only [Act.put, List.setIfInBounds_toArray, List.set_cons_zero, List.set_cons_succ])
                simp only [List.drop_succ_cons, List.drop_zero]
                have HG13 := Lib.hid j13
                clear j0 j5 h7 j8 j13
                have hb := hc
                clear hc
                have SS8 := Lib.hid hb.size
                have B8 := Lib.hid (B7.out.trans (hb.mono B7.out.size))
                have X8 := Lib.hid (X7.out.below hb)
                have Z8 := Lib.hid (Z7.out.below hb)
                have D8 := Lib.hid (D7.out.below hb)
                have V8 := Lib.hid (V7.out.below hb)
                have R8 := Lib.hid (R7.out.below hb)
                have Q8 := Lib.hid (Q7.out.below hb)
                have O8 := Lib.hid (O7.out.below hb)
                clear hb B7 X7 Z7 D7 V7 R7 Q7 O7
                have HG9 := Lib.hid (show wz.heap.size ≤ wx9.heap.size from SS8.out)
                obtain ⟨F5, hF5⟩ : ∃ F : Nat → Prop, (fun b => F3 b ∨ In wz.heap.size wx9.heap.size b) = F := ⟨_, rfl⟩
                have HF5 := Lib.hid (show ∀ b, F5 b → (FF b ∨ (w6.heap.size ≤ b ∧ b < wx9.heap.size)) by rw [← hF5]; exact fun b hb => by rcases hb with h1 | h1; (rcases HFB.out b h1 with h2 | h2; exact .inl h2; exact .inr (by have hlD := LD.out; have hlE := LE.out; have hs0 := LTX.out; have hs1 := LTZ.out; have hs2 := LHR.out; have hs3 := LHC.out; have hs4 := SS1.out; have hs5 := HCI.out; have hs6 := SS2.out; have hs7 := LWD.out; have hs8 := SS3.out; have hs9 := HF0.out; have hs10 := HBC.out; have hs11 := SS4.out; have hs12 := LWE.out; have hs13 := LUX5.out; have hs14 := LUZ5.out; have hs15 := LUD5.out; have hs16 := SBR5.out; have hs17 := SS6.out; have hs18 := HL13.out; have hs19 := SS7.out; have hs20 := HBFL.out; have hs21 := HBV.out; have hs22 := SS8.out; constructor <;> omega)); exact .inr (by have h2 := h1.1; have h3 := h1.2; have hlD := LD.out; have hlE := LE.out; have hs0 := LTX.out; have hs1 := LTZ.out; have hs2 := LHR.out; have hs3 := LHC.out; have hs4 := SS1.out; have hs5 := HCI.out; have hs6 := SS2.out; have hs7 := LWD.out; have hs8 := SS3.out; have hs9 := HF0.out; have hs10 := HBC.out; have hs11 := SS4.out; have hs12 := LWE.out; have hs13 := LUX5.out; have hs14 := LUZ5.out; have hs15 := LUD5.out; have hs16 := SBR5.out; have hs17 := SS6.out; have hs18 := HL13.out; have hs19 := SS7.out; have hs20 := HBFL.out; have hs21 := HBV.out; have hs22 := SS8.out; constructor <;> omega))
                have hgb := HG13.out.blk
                have N8 := Lib.hid (show Nrow F5 w0.heap.size w1.heap.size w6.heap.size wx9.heap.size wx9 Ax13 (n3 + 1) cx13 (pend s tk) from ⟨fun b hb => (HF5.out b hb).elim (fun h1 => .inl (by have h2 := O8.out.fi b h1; omega)) .inr, ⟨by have h1 := O8.out.hi_; omega, Nat.le_refl _⟩, by rw [← HINS.out]; exact HG13.out.nf (fun b hb => by rw [← hF5]; exact .inl hb) (fun g hg => by rw [← hF5]; exact .inr (hgb.1 g hg)) hgb.2.1 HFC.out⟩)
                have P8 := Lib.hid (show Orow F5 w0.heap.size w1.heap.size w6.heap.size wx9.heap.size be (be + 1) wx9 (some ⟨be, 0, none⟩) 0 0 ([] : List (List Int)) from ⟨N8.out.fi, ⟨N8.out.hi_.1, N8.out.hi_.2, O8.out.hi_.2.2⟩, O8.out.of_.mono (fun b hb => by rw [← hF5]; exact .inl (HFA.out b hb)), fun g hg => ⟨(O8.out.blk g hg).1, fun h9 => by have h1 := O8.out.blk g hg; rcases HF5.out g h9 with h2 | h2; exact h1.2 h2; (have h3 := h1.1; have hlD := LD.out; have hlE := LE.out; have hs0 := LTX.out; have hs1 := LTZ.out; have hs2 := LHR.out; have hs3 := LHC.out; have hs4 := SS1.out; have hs5 := HCI.out; have hs6 := SS2.out; have hs7 := LWD.out; have hs8 := SS3.out; have hs9 := HF0.out; have hs10 := HBC.out; have hs11 := SS4.out; have hs12 := LWE.out; have hs13 := LUX5.out; have hs14 := LUZ5.out; have hs15 := LUD5.out; have hs16 := SBR5.out; have hs17 := SS6.out; have hs18 := HL13.out; have hs19 := SS7.out; have hs20 := HBFL.out; have hs21 := HBV.out; have hs22 := SS8.out; omega)⟩⟩)
                clear hgb hF5 O8
                have cD1 : wx9.cell? ⟨bc, 1, none⟩ = some (.slice A3 n3 c3) := D8.out.cell 1
                have fD1 : wx9.frozen? ⟨bc, 1, none⟩ = false := D8.out.free 1
                go_upto_region 15 with fail
                clear cD1 fD1
                have hWW : (wx9.setCell ⟨bc, 1, none⟩ (.slice Ax13 (n3 + 1) cx13)) = (wx9.setCell ⟨bc, 1, none⟩ (.slice Ax13 (n3 + 1) cx13)) := rfl
                obtain ⟨w9, hW⟩ : ∃ wy, (wx9.setCell ⟨bc, 1, none⟩ (.slice Ax13 (n3 + 1) cx13)) = wy := ⟨_, rfl⟩
                rw [hW]
                clear hWW
                have B9 := Lib.hid (show Below w.heap.size w w9 by rw [← hW]; exact (B8.out.setCell (p := ⟨bc, 1, none⟩) (by have hlD := LD.out; have hlE := LE.out; have hs0 := LTX.out; have hs1 := LTZ.out; have hs2 := LHR.out; have hs3 := LHC.out; have hs4 := SS1.out; have hs5 := HCI.out; have hs6 := SS2.out; have hs7 := LWD.out; have hs8 := SS3.out; have hs9 := HF0.out; have hs10 := HBC.out; have hs11 := SS4.out; have hs12 := LWE.out; have hs13 := LUX5.out; have hs14 := LUZ5.out; have hs15 := LUD5.out; have hs16 := SBR5.out; have hs17 := SS6.out; have hs18 := HL13.out; have hs19 := SS7.out; have hs20 := HBFL.out; have hs21 := HBV.out; have hs22 := SS8.out; first | omega | (simp <;> omega)) _))
                have X9 := Lib.hid (show Bx 50 w9 (w.heap.size) #[.int .i64 s, .slice A n c] by rw [← hW]; exact (X8.out.other (by have hlD := LD.out; have hlE := LE.out; have hs0 := LTX.out; have hs1 := LTZ.out; have hs2 := LHR.out; have hs3 := LHC.out; have hs4 := SS1.out; have hs5 := HCI.out; have hs6 := SS2.out; have hs7 := LWD.out; have hs8 := SS3.out; have hs9 := HF0.out; have hs10 := HBC.out; have hs11 := SS4.out; have hs12 := LWE.out; have hs13 := LUX5.out; have hs14 := LUZ5.out; have hs15 := LUD5.out; have hs16 := SBR5.out; have hs17 := SS6.out; have hs18 := HL13.out; have hs19 := SS7.out; have hs20 := HBFL.out; have hs21 := HBV.out; have hs22 := SS8.out; first | omega | (simp <;> omega)) _ _))
                have Z9 := Lib.hid (show Bx 50 w9 (w.heap.size + 1) #[.int .i64 0, .slice none 0 0] by rw [← hW]; exact (Z8.out.other (by have hlD := LD.out; have hlE := LE.out; have hs0 := LTX.out; have hs1 := LTZ.out; have hs2 := LHR.out; have hs3 := LHC.out; have hs4 := SS1.out; have hs5 := HCI.out; have hs6 := SS2.out; have hs7 := LWD.out; have hs8 := SS3.out; have hs9 := HF0.out; have hs10 := HBC.out; have hs11 := SS4.out; have hs12 := LWE.out; have hs13 := LUX5.out; have hs14 := LUZ5.out; have hs15 := LUD5.out; have hs16 := SBR5.out; have hs17 := SS6.out; have hs18 := HL13.out; have hs19 := SS7.out; have hs20 := HBFL.out; have hs21 := HBV.out; have hs22 := SS8.out; first | omega | (simp <;> omega)) _ _))
                have D9 := Lib.hid (show Bx 50 w9 (bc) #[.int .i64 s, .slice Ax13 (n3 + 1) cx13] by rw [← hW]; exact (D8.out.set 1 _))
                have V9 := Lib.hid (show Bx 90 w9 (bf) #[.int .i64 m, .slice A4 nb c4] by rw [← hW]; exact (V8.out.other (by have hlD := LD.out; have hlE := LE.out; have hs0 := LTX.out; have hs1 := LTZ.out; have hs2 := LHR.out; have hs3 := LHC.out; have hs4 := SS1.out; have hs5 := HCI.out; have hs6 := SS2.out; have hs7 := LWD.out; have hs8 := SS3.out; have hs9 := HF0.out; have hs10 := HBC.out; have hs11 := SS4.out; have hs12 := LWE.out; have hs13 := LUX5.out; have hs14 := LUZ5.out; have hs15 := LUD5.out; have hs16 := SBR5.out; have hs17 := SS6.out; have hs18 := HL13.out; have hs19 := SS7.out; have hs20 := HBFL.out; have hs21 := HBV.out; have hs22 := SS8.out; first | omega | (simp <;> omega)) _ _))
                have R9 := Lib.hid (show RR rowNf w9 lo hi (.slice A n c) xs by rw [← hW]; exact (R8.out.same (by simp [World.setCell]) fun b h1 h2 => by rw [Below.heap_setCell _ _ _ _ (by have hlD := LD.out; have hlE := LE.out; have hs0 := LTX.out; have hs1 := LTZ.out; have hs2 := LHR.out; have hs3 := LHC.out; have hs4 := SS1.out; have hs5 := HCI.out; have hs6 := SS2.out; have hs7 := LWD.out; have hs8 := SS3.out; have hs9 := HF0.out; have hs10 := HBC.out; have hs11 := SS4.out; have hs12 := LWE.out; have hs13 := LUX5.out; have hs14 := LUZ5.out; have hs15 := LUD5.out; have hs16 := SBR5.out; have hs17 := SS6.out; have hs18 := HL13.out; have hs19 := SS7.out; have hs20 := HBFL.out; have hs21 := HBV.out; have hs22 := SS8.out; first | omega | (simp <;> omega))]))
                have Q9 := Lib.hid (show RR ux.bytes w9 lo2 hi2 (.slice Ab nb cb) zb by rw [← hW]; exact (Q8.out.same (by simp [World.setCell]) fun b h1 h2 => by rw [Below.heap_setCell _ _ _ _ (by have hlD := LD.out; have hlE := LE.out; have hs0 := LTX.out; have hs1 := LTZ.out; have hs2 := LHR.out; have hs3 := LHC.out; have hs4 := SS1.out; have hs5 := HCI.out; have hs6 := SS2.out; have hs7 := LWD.out; have hs8 := SS3.out; have hs9 := HF0.out; have hs10 := HBC.out; have hs11 := SS4.out; have hs12 := LWE.out; have hs13 := LUX5.out; have hs14 := LUZ5.out; have hs15 := LUD5.out; have hs16 := SBR5.out; have hs17 := SS6.out; have hs18 := HL13.out; have hs19 := SS7.out; have hs20 := HBFL.out; have hs21 := HBV.out; have hs22 := SS8.out; first | omega | (simp <;> omega))]))
                have N9 := Lib.hid (show Nrow F5 w0.heap.size w1.heap.size w6.heap.size wx9.heap.size w9 Ax13 (n3 + 1) cx13 (pend s tk) by rw [← hW]; exact (N8.out.same (by simp [World.setCell]) fun b h1 h2 => by rw [Below.heap_setCell _ _ _ _ (by have hlD := LD.out; have hlE := LE.out; have hs0 := LTX.out; have hs1 := LTZ.out; have hs2 := LHR.out; have hs3 := LHC.out; have hs4 := SS1.out; have hs5 := HCI.out; have hs6 := SS2.out; have hs7 := LWD.out; have hs8 := SS3.out; have hs9 := HF0.out; have hs10 := HBC.out; have hs11 := SS4.out; have hs12 := LWE.out; have hs13 := LUX5.out; have hs14 := LUZ5.out; have hs15 := LUD5.out; have hs16 := SBR5.out; have hs17 := SS6.out; have hs18 := HL13.out; have hs19 := SS7.out; have hs20 := HBFL.out; have hs21 := HBV.out; have hs22 := SS8.out; first | omega | (simp <;> omega))]))
                have P9 := Lib.hid (show Orow F5 w0.heap.size w1.heap.size w6.heap.size wx9.heap.size be (be + 1) w9 (some ⟨be, 0, none⟩) 0 0 ([] : List (List Int)) by rw [← hW]; exact (P8.out.same (by simp [World.setCell]) fun b h1 h2 => by rw [Below.heap_setCell _ _ _ _ (by have hlD := LD.out; have hlE := LE.out; have hs0 := LTX.out; have hs1 := LTZ.out; have hs2 := LHR.out; have hs3 := LHC.out; have hs4 := SS1.out; have hs5 := HCI.out; have hs6 := SS2.out; have hs7 := LWD.out; have hs8 := SS3.out; have hs9 := HF0.out; have hs10 := HBC.out; have hs11 := SS4.out; have hs12 := LWE.out; have hs13 := LUX5.out; have hs14 := LUZ5.out; have hs15 := LUD5.out; have hs16 := SBR5.out; have hs17 := SS6.out; have hs18 := HL13.out; have hs19 := SS7.out; have hs20 := HBFL.out; have hs21 := HBV.out; have hs22 := SS8.out; first | omega | (simp <;> omega))]))
                clear hW B8 X8 Z8 D8 V8 R8 Q8 N8 P8
                have cD0 : w9.cell? ⟨bc, 0, none⟩ = some (.int .i64 s) := D9.out.cell 0
                have cD1 : w9.cell? ⟨bc, 1, none⟩ = some (.slice Ax13 (n3 + 1) cx13) := D9.out.cell 1
                go_wp2_with (refine stw.list_load rfl 50 _ rfl (bc) rfl 50 _ D9.out Try.underlying50 rfl ux.szRob ?_)
                clear cD0 cD1
                (with_reducible refine (specRel F5 ⟨s, tk, ([] : List (List Int))⟩ be Ax13 (n3 + 1) cx13 (some ⟨be, 0, none⟩) 0 0 _ N9.out.nf P9.out.of_ (fun g hg => (P9.out.blk g hg).2) (fun b hb => by have h1 := N9.out.fi b hb; have h2 := N9.out.hi_; omega) HTS.out HTKL.out (by have h1 := P9.out.of_.len; have h2 := HTO.out; omega) (by have h1 := P9.out.hi_; have hlD := LD.out; have hlE := LE.out; have hs0 := LTX.out; have hs1 := LTZ.out; have hs2 := LHR.out; have hs3 := LHC.out; have hs4 := SS1.out; have hs5 := HCI.out; have hs6 := SS2.out; have hs7 := LWD.out; have hs8 := SS3.out; have hs9 := HF0.out; have hs10 := HBC.out; have hs11 := SS4.out; have hs12 := LWE.out; have hs13 := LUX5.out; have hs14 := LUZ5.out; have hs15 := LUD5.out; have hs16 := SBR5.out; have hs17 := SS6.out; have hs18 := HL13.out; have hs19 := SS7.out; have hs20 := HBFL.out; have hs21 := HBV.out; have hs22 := SS8.out; omega)).mono ?_)
                rintro e wr5 hp
                obtain ⟨A5, n5, c5, A6, n6, c6, rfl, hN, hO, hA, hK⟩ := rl_parts hp
                clear hp
                have HBK := Lib.hid (show ∀ q, q ∈ ux.blks (some ⟨be, 0, none⟩) → be ≤ q ∧ q < (be + 1) from fun q hq => (P9.out.blk q (in_blk hq)).1)
                have SSR := Lib.hid hK.size
                have BR := Lib.hid (B9.out.trans (ux.ks_bel hK (fun q hq => by have h1 := HBK.out q hq; have hlD := LD.out; have hlE := LE.out; have hs0 := LTX.out; have hs1 := LTZ.out; have hs2 := LHR.out; have hs3 := LHC.out; have hs4 := SS1.out; have hs5 := HCI.out; have hs6 := SS2.out; have hs7 := LWD.out; have hs8 := SS3.out; have hs9 := HF0.out; have hs10 := HBC.out; have hs11 := SS4.out; have hs12 := LWE.out; have hs13 := LUX5.out; have hs14 := LUZ5.out; have hs15 := LUD5.out; have hs16 := SBR5.out; have hs17 := SS6.out; have hs18 := HL13.out; have hs19 := SS7.out; have hs20 := HBFL.out; have hs21 := HBV.out; have hs22 := SS8.out; omega) B9.out.size))
                have ZR := Lib.hid (ux.bx_ks Z9.out hK (fun hm => by have h1 := HBK.out _ hm; have hlD := LD.out; have hlE := LE.out; have hs0 := LTX.out; have hs1 := LTZ.out; have hs2 := LHR.out; have hs3 := LHC.out; have hs4 := SS1.out; have hs5 := HCI.out; have hs6 := SS2.out; have hs7 := LWD.out; have hs8 := SS3.out; have hs9 := HF0.out; have hs10 := HBC.out; have hs11 := SS4.out; have hs12 := LWE.out; have hs13 := LUX5.out; have hs14 := LUZ5.out; have hs15 := LUD5.out; have hs16 := SBR5.out; have hs17 := SS6.out; have hs18 := HL13.out; have hs19 := SS7.out; have hs20 := HBFL.out; have hs21 := HBV.out; have hs22 := SS8.out; omega))
                have HFI5 := Lib.hid (show ∀ b, F5 b → (w0.heap.size ≤ b ∧ b < w1.heap.size) ∨ (w6.heap.size ≤ b ∧ b < wr5.heap.size) from fun b hb => by have h1 := N9.out.fi b hb; have h2 := N9.out.hi_; have h3 := hK.size; omega)
                have HFS5 := Lib.hid (show w1.heap.size ≤ wr5.heap.size by have h2 := N9.out.hi_; have h3 := hK.size; omega)
                have NR := Lib.hid hN
                have OR := Lib.hid hO
                clear hN hO hA hK
                obtain ⟨r5, hr5⟩ : ∃ r, runS (⟨s, tk, ([] : List (List Int))⟩ : St) = r := ⟨_, rfl⟩
                have HR5 := Lib.hid hr5
                rw [hr5] at NR OR ⊢
                clear hr5
                go_wp2_with (refine stw.list_store rfl 50 _ _ rfl (w.heap.size + 1) #[.int .i64 r5.s, .slice A5 n5 c5] rfl rfl 50 _ ZR.out rfl ux.szRob (ux.oneRob _ _ _ _) ?_; intro wz9 hz)
                have hB := hz.on BR.out (show w.heap.size ≤ w.heap.size + 1 by omega)
                have HKZ := Lib.hid (show KS [w.heap.size + 1] wr5 wz9 from ⟨hz.below.os, hz.below.tape, hz.below.output, hz.below.size, fun q h1 h2 => hz.other q (fun e => h2 (List.mem_singleton.2 e))⟩)
                have hN := NR.out.ks HKZ.out (fun q hq hm => by have h1 := List.mem_singleton.1 hm; have h2 := HFI5.out q hq; have h3 := HF0.out; have hlD := LD.out; have hlE := LE.out; have hs0 := LTX.out; have hs1 := LTZ.out; have hs2 := LHR.out; have hs3 := LHC.out; have hs4 := SS1.out; have hs5 := HCI.out; have hs6 := SS2.out; have hs7 := LWD.out; have hs8 := SS3.out; have hs9 := HF0.out; have hs10 := HBC.out; have hs11 := SS4.out; have hs12 := LWE.out; have hs13 := LUX5.out; have hs14 := LUZ5.out; have hs15 := LUD5.out; have hs16 := SBR5.out; have hs17 := SS6.out; have hs18 := HL13.out; have hs19 := SS7.out; have hs20 := HBFL.out; have hs21 := HBV.out; have hs22 := SS8.out; omega)
                have hO := OR.out.ks HKZ.out (fun q hq hm => by have h1 := List.mem_singleton.1 hm; have h2 := HFI5.out q hq; have h3 := HF0.out; have hlD := LD.out; have hlE := LE.out; have hs0 := LTX.out; have hs1 := LTZ.out; have hs2 := LHR.out; have hs3 := LHC.out; have hs4 := SS1.out; have hs5 := HCI.out; have hs6 := SS2.out; have hs7 := LWD.out; have hs8 := SS3.out; have hs9 := HF0.out; have hs10 := HBC.out; have hs11 := SS4.out; have hs12 := LWE.out; have hs13 := LUX5.out; have hs14 := LUZ5.out; have hs15 := LUD5.out; have hs16 := SBR5.out; have hs17 := SS6.out; have hs18 := HL13.out; have hs19 := SS7.out; have hs20 := HBFL.out; have hs21 := HBV.out; have hs22 := SS8.out; omega) (fun q hq hm => by have h1 := List.mem_singleton.1 hm; have h2 := (OR.out.lt hq).1; have hlD := LD.out; have hlE := LE.out; have hs0 := LTX.out; have hs1 := LTZ.out; have hs2 := LHR.out; have hs3 := LHC.out; have hs4 := SS1.out; have hs5 := HCI.out; have hs6 := SS2.out; have hs7 := LWD.out; have hs8 := SS3.out; have hs9 := HF0.out; have hs10 := HBC.out; have hs11 := SS4.out; have hs12 := LWE.out; have hs13 := LUX5.out; have hs14 := LUZ5.out; have hs15 := LUD5.out; have hs16 := SBR5.out; have hs17 := SS6.out; have hs18 := HL13.out; have hs19 := SS7.out; have hs20 := HBFL.out; have hs21 := HBV.out; have hs22 := SS8.out; omega)
                have hsz := hz.below.size
                have hszr := SSR.out
                have hfs := HFS5.out
                (try simp only [Exit.inBlock, Exit.then])
                refine bodyPost_ret (v := .tuple #[.agg #[.int .i64 r5.s, .slice A5 n5 c5], .slice A6 n6 c6]) ?_ rfl ?_
                · rw [results_cell_tmp1 rfl]
                  exact stw.back2 hz.box Try.underlying50 rfl ux.szRob _
                · rw [HREC.out, HR5.out]
                  exact ⟨A5, n5, c5, A6, n6, c6, rfl, hN.rrm (fun b hb => by have h1 := HFI5.out b hb; have h2 := HF0.out; have hlD := LD.out; have hlE := LE.out; have hs0 := LTX.out; have hs1 := LTZ.out; have hs2 := LHR.out; have hs3 := LHC.out; have hs4 := SS1.out; have hs5 := HCI.out; have hs6 := SS2.out; have hs7 := LWD.out; have hs8 := SS3.out; have hs9 := HF0.out; have hs10 := HBC.out; have hs11 := SS4.out; have hs12 := LWE.out; have hs13 := LUX5.out; have hs14 := LUZ5.out; have hs15 := LUD5.out; have hs16 := SBR5.out; have hs17 := SS6.out; have hs18 := HL13.out; have hs19 := SS7.out; have hs20 := HBFL.out; have hs21 := HBV.out; have hs22 := SS8.out; omega), (hO.lower (show w.heap.size ≤ _ by have hlD := LD.out; have hlE := LE.out; have hs0 := LTX.out; have hs1 := LTZ.out; have hs2 := LHR.out; have hs3 := LHC.out; have hs4 := SS1.out; have hs5 := HCI.out; have hs6 := SS2.out; have hs7 := LWD.out; have hs8 := SS3.out; have hs9 := HF0.out; have hs10 := HBC.out; have hs11 := SS4.out; have hs12 := LWE.out; have hs13 := LUX5.out; have hs14 := LUZ5.out; have hs15 := LUD5.out; have hs16 := SBR5.out; have hs17 := SS6.out; have hs18 := HL13.out; have hs19 := SS7.out; have hs20 := HBFL.out; have hs21 := HBV.out; have hs22 := SS8.out; omega)).rr (Nat.le_refl _) (fun b hb => by have h1 := HFI5.out b hb; have h2 := HF0.out; have hlD := LD.out; have hlE := LE.out; have hs0 := LTX.out; have hs1 := LTZ.out; have hs2 := LHR.out; have hs3 := LHC.out; have hs4 := SS1.out; have hs5 := HCI.out; have hs6 := SS2.out; have hs7 := LWD.out; have hs8 := SS3.out; have hs9 := HF0.out; have hs10 := HBC.out; have hs11 := SS4.out; have hs12 := LWE.out; have hs13 := LUX5.out; have hs14 := LUZ5.out; have hs15 := LUD5.out; have hs16 := SBR5.out; have hs17 := SS6.out; have hs18 := HL13.out; have hs19 := SS7.out; have hs20 := HBFL.out; have hs21 := HBV.out; have hs22 := SS8.out; omega) (fun q hq => (hO.lt hq).2), hB⟩
      | false =>
        have h100 : (100 : Int) < (nb : Int) := by have := of_decide_eq_false HV3.out; omega
        have HE := Lib.hid (show r2 = (⟨s, xs⟩, []) by rw [← HR2.out]; exact rc_no (by unfold may; rw [HV.out, HD.out, HV2.out, HNB.out, HV3.out]; simp))
        have cD0 : w3.cell? ⟨bc, 0, none⟩ = some (.int .i64 s) := D3.out.cell 0
        have cD1 : w3.cell? ⟨bc, 1, none⟩ = some (.slice A3 n3 c3) := D3.out.cell 1
        obtain ⟨be, hbe⟩ : ∃ b, w3.heap.size = b := ⟨_, rfl⟩
        have hE := Bx.made 22 w3 #[]
        have hbE := bx.below_box w3 (.cells #[] 22)
        rw [hbe] at hE
        have HL9 := Lib.hid (show w.heap.size + 1 < be by have h1 := Z3.out.lt; omega)
        go_wp2_with (first | (refine stw.list_load rfl 50 _ rfl (bc) rfl 50 _ D3.out Try.underlying50 rfl ux.szRob ?_) | (refine stw.list_store rfl 50 _ _ rfl (w.heap.size + 1) #[.int .i64 s, .slice A3 n3 c3] rfl rfl 50 _ (Z3.out.below hbE) rfl ux.szRob (ux.oneRob _ _ _ _) ?_; intro wz hz))
        have hB := hz.on (B3.out.trans (hbE.mono B3.out.size)) (show w.heap.size ≤ w.heap.size + 1 by omega)
        have hE2 := hz.keep hE (by have := HL9.out; omega)
        have hC := (C3.out.below hbE).same hz.below.size fun b h1 h2 => hz.other b (by have h9 := HCI.out; have hlD := LD.out; have hs0 := LTX.out; have hs1 := LTZ.out; have hs2 := LHR.out; have hs3 := LHC.out; have hs4 := SS1.out; have hs5 := HCI.out; have hs6 := SS2.out; have hs7 := LWD.out; have hs8 := SS3.out; omega)
        have hM := (M3.out.below hbE).same hz.below.size fun b h1 h2 => hz.other b (by have h9 := HCI.out; have hlD := LD.out; have hs0 := LTX.out; have hs1 := LTZ.out; have hs2 := LHR.out; have hs3 := LHC.out; have hs4 := SS1.out; have hs5 := HCI.out; have hs6 := SS2.out; have hs7 := LWD.out; have hs8 := SS3.out; omega)
        have hsz := hz.below.size
        have hsz2 := hbE.size
        (try simp only [Exit.inBlock, Exit.then])
        refine bodyPost_ret (v := .tuple #[.agg #[.int .i64 s, .slice A3 n3 c3], .slice (some ⟨be, 0, none⟩) 0 0]) ?_ rfl ?_
        · rw [results_cell_tmp1 rfl]
          exact stw.back2 hz.box Try.underlying50 rfl ux.szRob _
        · rw [HE.out]; exact ⟨_, _, _, _, _, _, rfl, rr_widen hC hM (by have h9 := HCI.out; omega) (by have h9 := HCI.out; have hlD := LD.out; have hs0 := LTX.out; have hs1 := LTZ.out; have hs2 := LHR.out; have hs3 := LHC.out; have hs4 := SS1.out; have hs5 := HCI.out; have hs6 := SS2.out; have hs7 := LWD.out; have hs8 := SS3.out; omega), ((ux.row_empty 22 ux.bytes hE2).wide (by have := HL9.out; omega)).rd, hB⟩
    | false =>
      have HE := Lib.hid (show r2 = (⟨s, xs⟩, []) by rw [← HR2.out]; exact rc_no (by unfold may; rw [HV.out, HD.out, HV2.out, HNB.out, HV3.out]; simp))
      have cD0 : w3.cell? ⟨bc, 0, none⟩ = some (.int .i64 s) := D3.out.cell 0
      have cD1 : w3.cell? ⟨bc, 1, none⟩ = some (.slice A3 n3 c3) := D3.out.cell 1
      obtain ⟨be, hbe⟩ : ∃ b, w3.heap.size = b := ⟨_, rfl⟩
      have hE := Bx.made 22 w3 #[]
      have hbE := bx.below_box w3 (.cells #[] 22)
      rw [hbe] at hE
      have HL9 := Lib.hid (show w.heap.size + 1 < be by have h1 := Z3.out.lt; omega)
      go_wp2_with (first | (refine stw.list_load rfl 50 _ rfl (bc) rfl 50 _ D3.out Try.underlying50 rfl ux.szRob ?_) | (refine stw.list_store rfl 50 _ _ rfl (w.heap.size + 1) #[.int .i64 s, .slice A3 n3 c3] rfl rfl 50 _ (Z3.out.below hbE) rfl ux.szRob (ux.oneRob _ _ _ _) ?_; intro wz hz))
      have hB := hz.on (B3.out.trans (hbE.mono B3.out.size)) (show w.heap.size ≤ w.heap.size + 1 by omega)
      have hE2 := hz.keep hE (by have := HL9.out; omega)
      have hC := (C3.out.below hbE).same hz.below.size fun b h1 h2 => hz.other b (by have h9 := HCI.out; have hlD := LD.out; have hs0 := LTX.out; have hs1 := LTZ.out; have hs2 := LHR.out; have hs3 := LHC.out; have hs4 := SS1.out; have hs5 := HCI.out; have hs6 := SS2.out; have hs7 := LWD.out; have hs8 := SS3.out; omega)
      have hM := (M3.out.below hbE).same hz.below.size fun b h1 h2 => hz.other b (by have h9 := HCI.out; have hlD := LD.out; have hs0 := LTX.out; have hs1 := LTZ.out; have hs2 := LHR.out; have hs3 := LHC.out; have hs4 := SS1.out; have hs5 := HCI.out; have hs6 := SS2.out; have hs7 := LWD.out; have hs8 := SS3.out; omega)
      have hsz := hz.below.size
      have hsz2 := hbE.size
      (try simp only [Exit.inBlock, Exit.then])
      refine bodyPost_ret (v := .tuple #[.agg #[.int .i64 s, .slice A3 n3 c3], .slice (some ⟨be, 0, none⟩) 0 0]) ?_ rfl ?_
      · rw [results_cell_tmp1 rfl]
        exact stw.back2 hz.box Try.underlying50 rfl ux.szRob _
      · rw [HE.out]; exact ⟨_, _, _, _, _, _, rfl, rr_widen hC hM (by have h9 := HCI.out; omega) (by have h9 := HCI.out; have hlD := LD.out; have hs0 := LTX.out; have hs1 := LTZ.out; have hs2 := LHR.out; have hs3 := LHC.out; have hs4 := SS1.out; have hs5 := HCI.out; have hs6 := SS2.out; have hs7 := LWD.out; have hs8 := SS3.out; omega), ((ux.row_empty 22 ux.bytes hE2).wide (by have := HL9.out; omega)).rd, hB⟩
  | false =>
    have HE := Lib.hid (show r2 = (⟨s, xs⟩, []) by rw [← HR2.out]; exact rc_no (by unfold may; rw [HV.out, HD.out, HV2.out, HNB.out, HV3.out]; simp))
    have cD0 : w3.cell? ⟨bc, 0, none⟩ = some (.int .i64 s) := D3.out.cell 0
    have cD1 : w3.cell? ⟨bc, 1, none⟩ = some (.slice A3 n3 c3) := D3.out.cell 1
    obtain ⟨be, hbe⟩ : ∃ b, w3.heap.size = b := ⟨_, rfl⟩
    have hE := Bx.made 22 w3 #[]
    have hbE := bx.below_box w3 (.cells #[] 22)
    rw [hbe] at hE
    have HL9 := Lib.hid (show w.heap.size + 1 < be by have h1 := Z3.out.lt; omega)
    go_wp2_with (first | (refine stw.list_load rfl 50 _ rfl (bc) rfl 50 _ D3.out Try.underlying50 rfl ux.szRob ?_) | (refine stw.list_store rfl 50 _ _ rfl (w.heap.size + 1) #[.int .i64 s, .slice A3 n3 c3] rfl rfl 50 _ (Z3.out.below hbE) rfl ux.szRob (ux.oneRob _ _ _ _) ?_; intro wz hz))
    have hB := hz.on (B3.out.trans (hbE.mono B3.out.size)) (show w.heap.size ≤ w.heap.size + 1 by omega)
    have hE2 := hz.keep hE (by have := HL9.out; omega)
    have hC := (C3.out.below hbE).same hz.below.size fun b h1 h2 => hz.other b (by have h9 := HCI.out; have hlD := LD.out; have hs0 := LTX.out; have hs1 := LTZ.out; have hs2 := LHR.out; have hs3 := LHC.out; have hs4 := SS1.out; have hs5 := HCI.out; have hs6 := SS2.out; have hs7 := LWD.out; have hs8 := SS3.out; omega)
    have hM := (M3.out.below hbE).same hz.below.size fun b h1 h2 => hz.other b (by have h9 := HCI.out; have hlD := LD.out; have hs0 := LTX.out; have hs1 := LTZ.out; have hs2 := LHR.out; have hs3 := LHC.out; have hs4 := SS1.out; have hs5 := HCI.out; have hs6 := SS2.out; have hs7 := LWD.out; have hs8 := SS3.out; omega)
    have hsz := hz.below.size
    have hsz2 := hbE.size
    (try simp only [Exit.inBlock, Exit.then])
    refine bodyPost_ret (v := .tuple #[.agg #[.int .i64 s, .slice A3 n3 c3], .slice (some ⟨be, 0, none⟩) 0 0]) ?_ rfl ?_
    · rw [results_cell_tmp1 rfl]
      exact stw.back2 hz.box Try.underlying50 rfl ux.szRob _
    · rw [HE.out]; exact ⟨_, _, _, _, _, _, rfl, rr_widen hC hM (by have h9 := HCI.out; omega) (by have h9 := HCI.out; have hlD := LD.out; have hs0 := LTX.out; have hs1 := LTZ.out; have hs2 := LHR.out; have hs3 := LHC.out; have hs4 := SS1.out; have hs5 := HCI.out; have hs6 := SS2.out; have hs7 := LWD.out; have hs8 := SS3.out; omega), ((ux.row_empty 22 ux.bytes hE2).wide (by have := HL9.out; omega)).rd, hB⟩
end Go.Proofs.Ytejjafmppihneaa.ro
