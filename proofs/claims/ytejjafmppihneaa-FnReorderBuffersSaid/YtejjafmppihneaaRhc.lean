import Derived.Test.YtejjafmppihneaaUw22
import Derived.Test.YtejjafmppihneaaRo2
import Derived.Deep.RegionHeld3
import Derived.Test.YtejjafmppihneaaRgs
import Derived.Test.YtejjafmppihneaaRg3
import Derived.Test.YtejjafmppihneaaRo6
import Derived.Test.YtejjafmppihneaaReg
import Derived.Test.YtejjafmppihneaaRgp
import Derived.Test.YtejjafmppihneaaRom
/- Sizes of reorder buffers, of rows of bytes. Condition: none. -/
namespace Go.Proofs.Ytejjafmppihneaa.ro
open ux (Nf Rob RR OO rowNf nf rob rowB)
set_option linter.unusedVariables false
theorem rob_bd (x : Rob) : ux.rob_tv x ≤ 64 * rob.sz x := ux.rowNf_tot x.Pending
theorem rowB_bd (l : List (List Int)) : rowB.tot l ≤ 64 * rowB.sz l := ux.rowB_tot l
theorem rob_of {w : World} {lo hi n c : Nat} {A : Option Addr} {f : Rob} (h : RR rowNf w lo hi (.slice A n c) f.Pending) : RR rob w lo hi (ux.robV f (.slice A n c)) f := ⟨rowNf.hi_ h, _, rfl, h⟩
theorem rob_rd {w : World} {lo hi n c : Nat} {A : Option Addr} {f : Rob} (h : RR rob w lo hi (ux.robV f (.slice A n c)) f) : RR rowNf w lo hi (.slice A n c) f.Pending := by
  obtain ⟨A', n', c', e, h0⟩ := ux.rob_r h
  have e2 : (#[.int .i64 f.Start, .slice A n c] : Array Value) = #[.int .i64 f.Start, .slice A' n' c'] := Value.agg.inj e
  have e3 := congrArg (fun a : Array Value => a[1]?) e2
  have e4 : Value.slice A n c = .slice A' n' c' := Option.some.inj e3
  rw [e4]
  exact h0
theorem rob_oo {w : World} {lo hi n c : Nat} {A : Option Addr} {fp : List Nat} {f : Rob} (h : OO rowNf w lo hi fp (.slice A n c) f.Pending) : OO rob w lo hi fp (ux.robV f (.slice A n c)) f := ux.rob_mk h (rowNf.nd h.1)
theorem rob_sz (f : Rob) : rob.sz f = f.Pending.length + ux.sumT (fun x : Nf => x.Body.length) f.Pending := rfl
/-- What a small buffer's size says. -/
theorem rob_small {f : Rob} (h : rob.sz f ≤ 1048576) {w : World} {lo hi n c : Nat} {A : Option Addr} (hr : RR rowNf w lo hi (.slice A n c) f.Pending) : n ≤ 67108864 := by
  obtain ⟨A', n', c', e, h1, _⟩ := hr
  injection e with e1 e2 e3
  subst e1 e2 e3
  rw [rob_sz] at h
  omega
theorem rob_bodies {f : Rob} (h : rob.sz f ≤ 1048576) : ∀ x ∈ f.Pending, x.Body.length ≤ 67108864 := by
  intro x hx
  have h1 := ux.sumT_mem (fun x : Nf => x.Body.length) hx
  rw [rob_sz] at h
  omega
theorem len_small {f : Rob} (h : rob.sz f ≤ 1048576) : f.Pending.length ≤ 1048576 := by rw [rob_sz] at h; omega
theorem new_sz (m : Int) : rob.sz (new m) ≤ 67108864 := by unfold new; split <;> (rw [rob_sz]; simp [ux.sumT])
end Go.Proofs.Ytejjafmppihneaa.ro
namespace Go.Proofs.Ytejjafmppihneaa.fr
open Go.RowKit sl harn bx stw
open bx
theorem bx_ks {T : TypeId} {w w' : World} {b : Nat} {cs : Array Value} {F : List Nat} (h : Bx T w b cs) (hk : KS F w w') (hb : b ∉ F) : Bx T w' b cs := h.same (hk.block b h.lt hb)
end Go.Proofs.Ytejjafmppihneaa.fr

/- MoveStart of the specification. Condition: sizes up to 2^26. -/
namespace Go.Proofs.Ytejjafmppihneaa.ro
open Go.RowKit sl harn bx stw
set_option linter.unusedVariables false
open ux (Nf Rob RR OO row rowB rowNf nf rob)
open mrw (blkOf)
open bs (nsq sqd)
set_option linter.unusedSimpArgs false
open mrw (blkOf)
open bx hiding below_box

/-- What is handed back: a buffer and bodies that are read, in memory that the call has made. -/
def Rr2 (p : Rob × List (List Int)) (w : World) (e : Ending) (w' : World) : Prop := ∃ A n c A2 n2 c2, e = .returned (.tuple #[.agg #[.int .i64 p.1.Start, .slice A n c], .slice A2 n2 c2]) ∧ (RR rowNf w' w.heap.size w'.heap.size (.slice A n c) p.1.Pending ∧ Rm (In w.heap.size w'.heap.size) w' A n c) ∧ RR rowB w' w.heap.size w'.heap.size (.slice A2 n2 c2) p.2 ∧ Below w.heap.size w w'
theorem rr2_parts {p : Rob × List (List Int)} {w : World} {e : Ending} {w' : World} (h : Rr2 p w e w') : ∃ A n c A2 n2 c2, e = .returned (.tuple #[.agg #[.int .i64 p.1.Start, .slice A n c], .slice A2 n2 c2]) ∧ RR rowNf w' w.heap.size w'.heap.size (.slice A n c) p.1.Pending ∧ RR rowB w' w.heap.size w'.heap.size (.slice A2 n2 c2) p.2 ∧ Below w.heap.size w w' := by
  obtain ⟨A, n, c, A2, n2, c2, e, h1, h2, h3⟩ := h
  exact ⟨A, n, c, A2, n2, c2, e, h1.1, h2, h3⟩
theorem rr_widen {w : World} {L H lo n c : Nat} {A : Option Addr} {xs : List Nf} (h : RR rowNf w L H (.slice A n c) xs) (hr : Rmr L H w A n c) (hl : lo ≤ L) (hh : H ≤ w.heap.size) : RR rowNf w lo w.heap.size (.slice A n c) xs ∧ Rm (In lo w.heap.size) w A n c :=
  (NF.of_rr (F := In L H) h (fun b h1 h2 => ⟨h1, h2⟩) hr.1).rrm (fun b hb => ⟨by have := hb.1; omega, by have := hb.2; omega⟩)
theorem OF.lower {F : Nat → Prop} {w : World} {lo lo2 n c : Nat} {A : Option Addr} {l : List (List Int)} (h : OF F w lo A n c l) (hl : lo2 ≤ lo) : OF F w lo2 A n c l := by
  obtain ⟨vs, ⟨h1, h2⟩, h3, h4⟩ := h
  refine ⟨vs, ⟨h1, ?_⟩, h3, h4⟩
  rcases h2 with h2 | ⟨g, c', cur, e, g1, g2⟩
  · exact .inl h2
  · exact .inr ⟨g, c', cur, e, by omega, g2⟩
theorem OF.len {F : Nat → Prop} {w : World} {lo n c : Nat} {A : Option Addr} {l : List (List Int)} (h : OF F w lo A n c l) : l.length = n := by
  obtain ⟨vs, _, h3, _⟩ := h
  exact h3
theorem in_blk {A : Option Addr} {q : Nat} (hm : q ∈ ux.blks A) : blkOf A = some q := blks_of hm
theorem mvs_no' {r : Rob} {n : Int} (h : may r n = false) : mvs r n = (r, []) := by unfold mvs; rw [if_neg (by simp [h])]
theorem mvs_yes' {r : Rob} {n : Int} (h : may r n = true) {k : Nat} (hk : sqd r.Start n = k) : mvs r n = (buf (mvT (start r) k), (mvT (start r) k).out) := by unfold mvs; rw [if_pos h, hk, Int.toNat_natCast]
end Go.Proofs.Ytejjafmppihneaa.ro

/- Sizes of what is moved and delivered. Condition: none. -/
namespace Go.Proofs.Ytejjafmppihneaa.ro
open ux (Nf Rob RR OO rowNf nf rob rowB)
set_option linter.unusedVariables false
theorem sum_le {α : Type} (f : α → Nat) (M : Nat) : ∀ l : List α, (∀ x ∈ l, f x ≤ M) → ux.sumT f l ≤ l.length * M
  | [], _ => by simp [ux.sumT]
  | x :: r, h => by
    have h1 := sum_le f M r fun y hy => h y (List.mem_cons_of_mem _ hy)
    have h2 := h x List.mem_cons_self
    rw [ux.sumT_cons, List.length_cons, Nat.add_mul]
    omega
/-- Short bodies, and few of them. -/
structure Okb (t : St) (N : Nat) : Prop where
  len : t.ws.length = 16
  b : ∀ x, some x ∈ t.ws → x.length ≤ 100
  o : ∀ x ∈ t.out, x.length ≤ 100
  n : t.out.length ≤ N
theorem mem_bods {ws : Win} {x : List Int} (h : x ∈ bods ws) : some x ∈ ws := by
  unfold bods at h
  obtain ⟨o, h1, h2⟩ := List.mem_filterMap.1 h
  have h3 : o = some x := h2
  rw [← h3]; exact h1
theorem okb_adv {t : St} {N : Nat} (h : Okb t N) (k : Nat) : Okb (advS t k) (N + 16) := by
  refine ⟨by rw [adv_len]; exact h.len, fun x hx => ?_, fun x hx => ?_, by have h1 := adv_out t k; have h2 := h.n; have h3 := h.len; omega⟩
  · rcases take_mem hx with h1 | h1
    · exact h.b x h1
    · cases h1
  · rcases List.mem_append.1 (show x ∈ t.out ++ bods (t.ws.take k) from hx) with h1 | h1
    · exact h.o x h1
    · exact h.b x (List.mem_of_mem_take (mem_bods h1))
theorem okb_run {t : St} {N : Nat} (h : Okb t N) : Okb (runS t) (N + 16) := okb_adv h _
theorem okb_kp {t : St} {N : Nat} (h : Okb t N) (d : Nat) {x : List Int} (hx : x.length ≤ 100) : Okb ⟨t.s, kp t.ws d x, t.out⟩ N := by
  refine ⟨by show (kp _ _ _).length = 16; rw [kp_len]; exact h.len, fun y hy => ?_, h.o, h.n⟩
  rcases kp_mem hy with h1 | h1
  · exact h.b y h1
  · rw [h1]; exact hx
theorem okb_start {r : Rob} (h : vr r = true) : Okb (start r) 0 := ⟨(vr_ok h).1.len, (vr_ok h).1.b, fun x hx => (by cases hx), Nat.le_refl _⟩
theorem okb_buf {t : St} {N : Nat} (h : Okb t N) : rob.sz (buf t) ≤ 2000 := by
  rw [rob_sz]
  show (pend t.s t.ws).length + ux.sumT (fun x : Nf => x.Body.length) (pend t.s t.ws) ≤ 2000
  have h1 := pend_len t.ws t.s
  have h2 := sum_le (fun x : Nf => x.Body.length) 100 (pend t.s t.ws) fun x hx => by
    obtain ⟨i, _, _, h3⟩ := mem_pend hx
    exact h.b _ (List.mem_of_getElem? h3)
  have h3 := h.len
  omega
theorem rowB_sz (l : List (List Int)) : rowB.sz l = l.length + ux.sumT (fun x : List Int => x.length) l := rfl
theorem okb_out {t : St} {N : Nat} (h : Okb t N) (hN : N ≤ 1000) : rowB.sz t.out ≤ 200000 := by
  rw [rowB_sz]
  have h2 := sum_le (fun x : List Int => x.length) 100 t.out h.o
  have h3 := h.n
  omega
theorem may_vr {r : Rob} {n : Int} (h : may r n = true) : vr r = true := by unfold may at h; rw [Bool.and_eq_true] at h; exact h.1
theorem mvs_sz {r : Rob} {n : Int} (h : rob.sz r ≤ 1048576) : rob.sz (mvs r n).1 ≤ 67108864 ∧ rowB.sz (mvs r n).2 ≤ 67108864 := by
  unfold mvs
  split
  · rename_i hm
    have h1 := okb_run (okb_adv (okb_start (may_vr hm)) (bs.sqd r.Start n).toNat)
    have h2 := okb_buf h1
    have h3 := okb_out h1 (by omega)
    exact ⟨by show rob.sz (buf (mvT _ _)) ≤ _; unfold mvT; omega, by show rowB.sz (mvT _ _).out ≤ _; unfold mvT; omega⟩
  · exact ⟨by show rob.sz r ≤ _; omega, by show rowB.sz [] ≤ _; rw [rowB_sz]; simp [ux.sumT]⟩
theorem recv_sz {r : Rob} {n : Int} {b : List Int} (h : rob.sz r ≤ 1048576) : rob.sz (recv r n b).1 ≤ 67108864 ∧ rowB.sz (recv r n b).2 ≤ 67108864 := by
  unfold recv
  split
  · rename_i hm
    rw [Bool.and_eq_true] at hm
    have hb := of_decide_eq_true hm.2
    have h0 := okb_adv (okb_start (may_vr hm.1)) ((bs.sqd r.Start n).toNat - 15)
    have h1 := okb_run (okb_kp h0 ((bs.sqd r.Start n).toNat - ((bs.sqd r.Start n).toNat - 15)) hb)
    have h2 := okb_buf h1
    have h3 := okb_out h1 (by omega)
    exact ⟨by show rob.sz (buf (rcvT _ _ _)) ≤ _; unfold rcvT; omega, by show rowB.sz (rcvT _ _ _).out ≤ _; unfold rcvT; omega⟩
  · exact ⟨by show rob.sz r ≤ _; omega, by show rowB.sz [] ≤ _; rw [rowB_sz]; simp [ux.sumT]⟩
end Go.Proofs.Ytejjafmppihneaa.ro

/- The rule of drawn regions with a tail: a value need stay right only under operations that it does not wait for. Condition: the region's form. -/
namespace Go.Proofs.Ytejjafmppihneaa.reg
open Go.RowKit sl harn bx
set_option linter.unusedVariables false
/-- Whether operation j waits for operation i. -/
def waits (ops : Array Oper) (j i : Nat) : Bool :=
  match ops[j]? with
  | some o => o.after.any fun e => Region.binds .any e && e.on == i
  | none => false
theorem waits_no {rf : List (Nat × Tmp)} {C : World → Prop} {R : Nat → Value → World → Prop} {ops : Array Oper} {a0 a : Act} {s : Nat} {L : Array Bool} {w : World} (I : Inv rf C R ops a0 s L a w) {i j : Nat} (hl : L.getD j false = true) (hun : L.getD i true = false) : waits ops j i = false := by
  unfold waits
  cases ho : ops[j]? with
  | none => rfl
  | some o =>
    simp only
    rw [Array.any_eq_false']
    intro e he
    intro hb
    rw [Bool.and_eq_true] at hb
    have h1 := I.closed j o ho hl e he hb.1
    have h2 : e.on = i := by simpa using hb.2
    rw [h2, getD_both hun] at h1
    cases h1
section
variable {P : Program} {ops : Array Oper} {Q : Exit → Act → World → Prop} {C : World → Prop} {R : Nat → Value → World → Prop} {a0 : Act} {E : Nat → World → World → Prop} {rf : List (Nat × Tmp)}
theorem inv_stepX {s N : Nat} {nd : List (Option (List (Nat × Tmp)))} (H : Ok ops s N rf nd) (hN : a0.tmps.size = N) (hC : ∀ i w w', C w → E i w w' → C w') (hR : ∀ i j v w w', i ≠ j → waits ops j i = false → R j v w → E i w w' → R j v w')
    {L : Array Bool} {a : Act} {w : World} (I : Inv rf C R ops a0 s L a w) {i : Nat} {o : Oper} (ho : ops[i]? = some o) (his : i < s) (hr : i ∈ Region.ready .any ops L) {v : Value} {w' : World} (hv : (slot rf i (dst ops i)).isSome = true → R i (told rf a i v (dst ops i)) w') (hb : E i w w') :
    Inv rf C R ops a0 s (L.setIfInBounds i true) (a.put o.dst v) w' := by
  obtain ⟨hun, o', ho', hall⟩ := mem_ready.1 hr
  obtain rfl : o' = o := Option.some.inj (ho'.symm.trans ho)
  have hd : dst ops i = o'.dst := by unfold dst; rw [ho]; rfl
  have hi : i < ops.size := (Array.getElem?_eq_some_iff.1 ho).1
  have hiL : i < L.size := by rw [I.len]; exact hi
  refine ⟨hC _ _ _ I.c hb, by simp [I.len], fun j oj hj hl e he hbi => ?_, fun t ht => by rw [getD_set_ne false (by omega)]; exact I.tail t ht, by rw [put_defers]; exact I.defers, by rw [put_size]; exact I.size, fun k hk => ?_, fun j hl hsm => ?_⟩
  · by_cases hij : i = j
    · subst hij
      obtain rfl : oj = o' := Option.some.inj (hj.symm.trans ho)
      exact getD_set_true (hall e he hbi)
    · rw [getD_set_ne false hij] at hl
      exact getD_set_true (I.closed j oj hj hl e he hbi)
  · have hik : dst ops i ≠ some k := hk i (set_at hiL)
    rw [put_ne (by rw [← hd]; exact hik)]
    exact I.base k fun j hl => hk j (getD_set_true hl)
  · by_cases hij : i = j
    · subst hij
      have hv' := hv hsm
      cases hdd : dst ops i with
      | some d =>
        rw [hdd] at hv'
        have : look (a.put o'.dst v) (slot rf i (some d)) = v := by
          rw [← hd, hdd]
          exact put_at (by rw [I.size, hN]; exact H.room i d hdd)
        rw [this]; exact hv'
      | none =>
        rw [hdd] at hv'
        have : look (a.put o'.dst v) (slot rf i none) = look a (rf.lookup i) := by rw [← hd, hdd]; rfl
        rw [this]; exact hv'
    · rw [getD_set_ne false hij] at hl
      have keep : look (a.put o'.dst v) (slot rf j (dst ops j)) = look a (slot rf j (dst ops j)) := by
        cases hdd : dst ops j with
        | some d => exact put_ne fun e => H.apart j i d (dst_lt hdd) hi (Ne.symm hij) hdd (by rw [hd]; exact e)
        | none =>
          cases hrf : rf.lookup j with
          | none => simp only [slot, hrf, look]
          | some d =>
            simp only [slot, hrf]
            obtain ⟨_, hjs, l, k, hl1, hkl⟩ := H.refs j d hrf
            have hjn : j < ops.size := by
              rcases Nat.lt_or_ge j ops.size with h' | h'
              · exact h'
              · simp [Array.getElem?_eq_none (show L.size ≤ j by rw [I.len]; exact h')] at hl
            have hoj : ops[j]? = some ops[j] := Array.getElem?_eq_getElem hjn
            obtain ⟨l', hl2, hdep, _⟩ := H.need j _ hoj hjs
            obtain rfl : l' = l := by simpa using hl2.symm.trans hl1
            obtain ⟨h1, h2, _⟩ := hdep (k, d) hkl
            obtain ⟨e, he, hbi, hon⟩ := edge_of h1 hoj
            have hkL := I.closed j _ hoj hl e he hbi
            rw [hon] at hkL
            refine put_ne fun e => ?_
            have hki : k ≠ i := fun e => by subst e; rw [getD_both hun] at hkL; cases hkL
            exact H.apart k i d (dst_lt h2) hi hki h2 (by rw [hd]; exact e)
      rw [keep]
      exact hR i j _ _ _ hij (waits_no I hl hun) (I.right j hl hsm) hb

theorem step_opX {l : List Oper} {s N : Nat} {nd : List (Option (List (Nat × Tmp)))} (H : Ok l.toArray s N rf nd) (hN : a0.tmps.size = N) (hC : ∀ i w w', C w → E i w w' → C w') (hR : ∀ i j v w w', i ≠ j → waits l.toArray j i = false → R j v w → E i w w' → R j v w')
    (hA : All E rf P l.toArray R C a0 0 l nd) {L : Array Bool} {a : Act} {w : World} (I : Inv rf C R l.toArray a0 s L a w) {i : Nat} (his : i < s) (hr : i ∈ Region.ready .any l.toArray L) {K : Act → World → Prop}
    (hK : ∀ a' w', Inv rf C R l.toArray a0 s (L.setIfInBounds i true) a' w' → K a' w') : wpOp P l.toArray Q i K a w := by
  obtain ⟨hun, o, ho, hall⟩ := mem_ready.1 hr
  have hd : dst l.toArray i = o.dst := by unfold dst; rw [ho]; rfl
  obtain ⟨d, hnd, hdep, hlook⟩ := H.need i o ho his
  have hlist : ∀ j ∈ d, L.getD j.1 false = true := fun j hj => by
    obtain ⟨e, he, hb, hon⟩ := edge_of (hdep j hj).1 ho
    rw [← hon]; exact hall e he hb
  have hob : Ob E rf P l.toArray R C a0 i o d := by
    have := all_get l nd 0 hA i o d (by simpa using ho) hnd
    rwa [Nat.zero_add] at this
  have hc := obs_puts (a := a) _ _ (hob w I.c) fun j hj => by
    have := I.right j.1 (hlist j hj) (by rw [(hdep j hj).2.1]; rfl)
    rwa [(hdep j hj).2.1] at this
  have hcs : (puts l.toArray a d a0).tmps.size = a.tmps.size := by rw [puts_size]; exact I.size.symm
  have hag : ∀ k ∈ o.looksAt l.toArray, a.tmps.getD k undef = (puts l.toArray a d a0).tmps.getD k undef := fun k hk => by
    rcases hlook k hk with h | h
    · exact (puts_in a d a0 I.size h).symm
    · refine (puts_kept a d a0 I.size (I.base k fun j hl => h j ?_).symm).symm
      rcases Nat.lt_or_ge j s with h' | h'
      · exact h'
      · rw [I.tail j h'] at hl; cases hl
  have hsel := Region.noSelect_spec H.sel i o
  have h1 := hc (fun a' w' => ∃ v, a' = (puts l.toArray a d a0).put o.dst v ∧ R i (told rf (puts l.toArray a d a0) i v o.dst) w' ∧ E i w w') fun v w' h2 h3 => ⟨v, rfl, h2, h3⟩
  have fin : ∀ v w', (∃ v', (puts l.toArray a d a0).put o.dst v = (puts l.toArray a d a0).put o.dst v' ∧ R i (told rf (puts l.toArray a d a0) i v' o.dst) w' ∧ E i w w') → K (a.put o.dst v) w' := fun v w' ⟨v', e, h2, h3⟩ =>
    hK _ _ (inv_stepX H hN hC hR I ho his hr (fun hsm => by
      rw [hd] at hsm ⊢
      cases hx' : o.dst with
      | some x =>
        rw [hx'] at e h2
        have hx : dst l.toArray i = some x := by rw [hd]; exact hx'
        have hlt : x < (puts l.toArray a d a0).tmps.size := by rw [puts_size, hN]; exact H.room i x hx
        have h4 : ((puts l.toArray a d a0).put (some x) v).tmps.getD x undef = ((puts l.toArray a d a0).put (some x) v').tmps.getD x undef := by rw [e]
        rw [put_at hlt, put_at hlt] at h4
        show R i v w'
        rw [h4]; exact h2
      | none =>
        rw [hx'] at h2 hsm
        show R i (look a (rf.lookup i)) w'
        have h2' : R i (look (puts l.toArray a d a0) (rf.lookup i)) w' := h2
        obtain ⟨x, hx⟩ := Option.isSome_iff_exists.1 hsm
        have hx2 : rf.lookup i = some x := hx
        rw [hx2] at h2' ⊢
        obtain ⟨_, _, l', k, hl1, hkl⟩ := H.refs i x hx2
        obtain rfl : l' = d := by simpa using hl1.symm.trans hnd
        have e2 : (puts l.toArray a l' a0).tmps.getD x undef = a.tmps.getD x undef := puts_in a l' a0 I.size ⟨(k, x), hkl, rfl⟩
        have e3 : look (puts l.toArray a l' a0) (some x) = look a (some x) := e2
        rw [← e3]; exact h2') h3)
  unfold wpOp
  rw [ho]
  simp only
  rw [wanted_same hcs.symm hag]
  split
  · rename_i hw
    rw [if_pos hw] at h1
    refine .inl ?_
    unfold Oper.wp at h1 ⊢
    rw [exec_same (fun cs b => hsel cs b ho) hag]
    refine upon_move fin (fun dd w' hh => ?_) h1
    obtain ⟨v', e, _⟩ := hh
    have := congrArg Act.defers e
    rw [put_defers, put_defers] at this
    exact absurd (congrArg List.length this) (by simp)
  · rename_i hw
    rw [if_neg hw] at h1
    exact fin _ _ h1

theorem any_tailX {l : List Oper} {s N : Nat} {nd : List (Option (List (Nat × Tmp)))} (hs : s < l.length) (H : Ok l.toArray s N rf nd) (hT : Region.seqB .any l.toArray (l.length - s) s (upTo l.length s) = true) (hN : a0.tmps.size = N) (hC : ∀ i w w', C w → E i w w' → C w')
    (hR : ∀ i j v w w', i ≠ j → waits l.toArray j i = false → R j v w → E i w w' → R j v w') (hA : All E rf P l.toArray R C a0 0 l nd) (hF : ∀ w, C w → Obs l.toArray R w (fun c => wpList P l.toArray Q (l.drop s) c w) (heads l.toArray s) a0) :
    ∀ (fuel : Nat) (L : Array Bool) (a : Act) (w : World), L.toList.count false = fuel → Inv rf C R l.toArray a0 s L a w → wpAny P .any l.toArray Q fuel L a w := by
  have hsl : s < l.toArray.size := by simpa using hs
  intro fuel
  induction fuel with
  | zero =>
    intro L a w hc I
    have h1 := none_left (L := L) (by omega) s
    have h2 := getD_in (by rw [I.len]; exact hsl) (I.tail s (Nat.le_refl _))
    rw [h1] at h2; cases h2
  | succ fuel ih =>
    intro L a w hc I
    by_cases hall : ∀ i, i < s → L.getD i false = true
    · have hu : L = upTo l.length s := is_upTo (by rw [I.len]; simp) hall I.tail
      have hcc := count_upTo l.length s (by omega)
      rw [← hu, hc] at hcc
      have h1 := all_done H I (fun i h _ => hall i h) (hF w I.c)
      have := wpAny_of_seq (md := .any) (Q' := Q) (l.drop s) s L a w (fun j => by simp [List.getElem?_drop]) (by rw [hu, List.length_drop]; exact hT) h1
      rwa [List.length_drop, ← hcc] at this
    · refine ⟨fun h0 => absurd h0 (some_ready H I.len (s + 1) s (by omega) hsl (getD_in (by rw [I.len]; exact hsl) (I.tail s (Nat.le_refl _)))), fun i hi => ?_⟩
      have his : i < s := by
        rcases Nat.lt_trichotomy i s with h | h | h
        · exact h
        · subst h; exact absurd (fun j hj => tail_last H I hi (i - j + 1) j (by omega) hj) hall
        · exact (no_tail H I h hi).elim
      exact step_opX H hN hC hR hA I his hi fun a' w' I' => ih _ _ _ (by have := count_set (mem_ready.1 hi).1; omega) I'

theorem region_tailX {id : Nat} {l : List Oper} {w : World} (E : Nat → World → World → Prop) (s N : Nat) (nd : List (Option (List (Nat × Tmp)))) (hd : List (Nat × Tmp)) (C : World → Prop) (R : Nat → Value → World → Prop) (hm : P.follows .mixedOrders = true) (hs : decide (s < l.length) = true) (hB : okB l.toArray s N [] nd = true)
    (hT : Region.seqB .any l.toArray (l.length - s) s (upTo l.length s) = true) (hN : a0.tmps.size = N) (hC : ∀ i w w', C w → E i w w' → C w') (hR : ∀ i j v w w', i ≠ j → waits l.toArray j i = false → R j v w → E i w w' → R j v w') (h0 : C w.drew) (hH : heads l.toArray s = hd) (hA : All E [] P l.toArray R C a0 0 l nd)
    (hF : ∀ w, C w → Obs l.toArray R w (fun c => wpList P l.toArray Q (l.drop s) c w) hd a0) : (Code.region id l.toArray true).wp P Q a0 w :=
  wp_region_any hm (by
    subst hH
    exact any_tailX (Q := Q) (E := E) (rf := []) (of_decide_eq_true hs) (ok_of hB) hT hN hC hR hA hF _ _ a0 w.drew (by simp) (inv_start h0))
end
end Go.Proofs.Ytejjafmppihneaa.reg

/- The rule of drawn regions with a tail, with references, and with what holds of the world as long as an operation is not done. Condition: the region's form. -/
namespace Go.Proofs.Ytejjafmppihneaa.reg
open Go Go.RowKit sl harn bx
set_option linter.unusedVariables false
section
variable {P : Program} {ops : Array Oper} {Q : Exit → Act → World → Prop} {C : World → Prop} {R : Nat → Value → World → Prop} {a0 : Act} {E : Nat → World → World → Prop} {rf : List (Nat × Tmp)}
theorem step_opY {l : List Oper} {s N : Nat} {nd : List (Option (List (Nat × Tmp)))} (H : Ok l.toArray s N rf nd) (hN : a0.tmps.size = N) (hC : ∀ i w w', C w → E i w w' → C w') (hR : ∀ i j v w w', i ≠ j → waits l.toArray j i = false → R j v w → E i w w' → R j v w')
    {L : Array Bool} {a : Act} {w : World} (I : Inv rf C R l.toArray a0 s L a w) {i : Nat} (his : i < s) (hr : i ∈ Region.ready .any l.toArray L)
    (hob : ∀ o d, l.toArray[i]? = some o → nd[i]? = some (some d) → Obs l.toArray R w (fun c => ∀ K : Act → World → Prop, (∀ v w', R i (told rf c i v o.dst) w' → E i w w' → K (c.put o.dst v) w') → if Region.wanted o (yielded l.toArray c.tmps) = true then Oper.wp P o c w K QF else K (c.put o.dst undef) w) d a0) {K : Act → World → Prop}
    (hK : ∀ a' w', Inv rf C R l.toArray a0 s (L.setIfInBounds i true) a' w' → E i w w' → K a' w') : wpOp P l.toArray Q i K a w := by
  obtain ⟨hun, o, ho, hall⟩ := mem_ready.1 hr
  have hd : dst l.toArray i = o.dst := by unfold dst; rw [ho]; rfl
  obtain ⟨d, hnd, hdep, hlook⟩ := H.need i o ho his
  have hlist : ∀ j ∈ d, L.getD j.1 false = true := fun j hj => by
    obtain ⟨e, he, hb, hon⟩ := edge_of (hdep j hj).1 ho
    rw [← hon]; exact hall e he hb
  have hc := obs_puts (a := a) _ _ (hob o d ho hnd) fun j hj => by
    have := I.right j.1 (hlist j hj) (by rw [(hdep j hj).2.1]; rfl)
    rwa [(hdep j hj).2.1] at this
  have hcs : (puts l.toArray a d a0).tmps.size = a.tmps.size := by rw [puts_size]; exact I.size.symm
  have hag : ∀ k ∈ o.looksAt l.toArray, a.tmps.getD k undef = (puts l.toArray a d a0).tmps.getD k undef := fun k hk => by
    rcases hlook k hk with h | h
    · exact (puts_in a d a0 I.size h).symm
    · refine (puts_kept a d a0 I.size (I.base k fun j hl => h j ?_).symm).symm
      rcases Nat.lt_or_ge j s with h' | h'
      · exact h'
      · rw [I.tail j h'] at hl; cases hl
  have hsel := Region.noSelect_spec H.sel i o
  have h1 := hc (fun a' w' => ∃ v, a' = (puts l.toArray a d a0).put o.dst v ∧ R i (told rf (puts l.toArray a d a0) i v o.dst) w' ∧ E i w w') fun v w' h2 h3 => ⟨v, rfl, h2, h3⟩
  have fin : ∀ v w', (∃ v', (puts l.toArray a d a0).put o.dst v = (puts l.toArray a d a0).put o.dst v' ∧ R i (told rf (puts l.toArray a d a0) i v' o.dst) w' ∧ E i w w') → K (a.put o.dst v) w' := fun v w' ⟨v', e, h2, h3⟩ =>
    hK _ _ (inv_stepX H hN hC hR I ho his hr (fun hsm => by
      rw [hd] at hsm ⊢
      cases hx' : o.dst with
      | some x =>
        rw [hx'] at e h2
        have hx : dst l.toArray i = some x := by rw [hd]; exact hx'
        have hlt : x < (puts l.toArray a d a0).tmps.size := by rw [puts_size, hN]; exact H.room i x hx
        have h4 : ((puts l.toArray a d a0).put (some x) v).tmps.getD x undef = ((puts l.toArray a d a0).put (some x) v').tmps.getD x undef := by rw [e]
        rw [put_at hlt, put_at hlt] at h4
        show R i v w'
        rw [h4]; exact h2
      | none =>
        rw [hx'] at h2 hsm
        show R i (look a (rf.lookup i)) w'
        have h2' : R i (look (puts l.toArray a d a0) (rf.lookup i)) w' := h2
        obtain ⟨x, hx⟩ := Option.isSome_iff_exists.1 hsm
        have hx2 : rf.lookup i = some x := hx
        rw [hx2] at h2' ⊢
        obtain ⟨_, _, l', k, hl1, hkl⟩ := H.refs i x hx2
        obtain rfl : l' = d := by simpa using hl1.symm.trans hnd
        have e2 : (puts l.toArray a l' a0).tmps.getD x undef = a.tmps.getD x undef := puts_in a l' a0 I.size ⟨(k, x), hkl, rfl⟩
        have e3 : look (puts l.toArray a l' a0) (some x) = look a (some x) := e2
        rw [← e3]; exact h2') h3) h3
  unfold wpOp
  rw [ho]
  simp only
  rw [wanted_same hcs.symm hag]
  split
  · rename_i hw
    rw [if_pos hw] at h1
    refine .inl ?_
    unfold Oper.wp at h1 ⊢
    rw [exec_same (fun cs b => hsel cs b ho) hag]
    refine upon_move fin (fun dd w' hh => ?_) h1
    obtain ⟨v', e, _⟩ := hh
    have := congrArg Act.defers e
    rw [put_defers, put_defers] at this
    exact absurd (congrArg List.length this) (by simp)
  · rename_i hw
    rw [if_neg hw] at h1
    exact fin _ _ h1


/-- One operation's duty, told what holds as long as it is not done. -/
def ObY (U : Nat → World → Prop) (E : Nat → World → World → Prop) (rf : List (Nat × Tmp)) (P : Program) (ops : Array Oper) (R : Nat → Value → World → Prop) (C : World → Prop) (a0 : Act) (i : Nat) (o : Oper) (d : List (Nat × Tmp)) : Prop :=
  ∀ w, C w → U i w → Obs ops R w (fun c => ∀ K : Act → World → Prop, (∀ v w', R i (told rf c i v o.dst) w' → E i w w' → K (c.put o.dst v) w') →
    if Region.wanted o (yielded ops c.tmps) = true then Oper.wp P o c w K QF else K (c.put o.dst undef) w) d a0
def AllY (U : Nat → World → Prop) (E : Nat → World → World → Prop) (rf : List (Nat × Tmp)) (P : Program) (ops : Array Oper) (R : Nat → Value → World → Prop) (C : World → Prop) (a0 : Act) : Nat → List Oper → List (Option (List (Nat × Tmp))) → Prop
  | i, o :: l, some d :: nd => ObY U E rf P ops R C a0 i o d ∧ AllY U E rf P ops R C a0 (i + 1) l nd
  | i, _ :: l, none :: nd => AllY U E rf P ops R C a0 (i + 1) l nd
  | _, _, _ => True
theorem all_getY {U : Nat → World → Prop} : ∀ (l : List Oper) (nd : List (Option (List (Nat × Tmp)))) (k : Nat), AllY U E rf P ops R C a0 k l nd → ∀ (i : Nat) (o : Oper) (d : List (Nat × Tmp)), l[i]? = some o → nd[i]? = some (some d) → ObY U E rf P ops R C a0 (k + i) o d
  | [], _, _, _, i, o, d, ho, _ => by simp at ho
  | o :: l, [], _, _, i, _, d, _, hd => by simp at hd
  | o :: l, none :: nd, k, h, 0, _, d, _, hd => by simp at hd
  | o :: l, none :: nd, k, h, i + 1, o', d, ho, hd => by
    have := all_getY l nd (k + 1) h i o' d (by simpa using ho) (by simpa using hd)
    rwa [show k + 1 + i = k + (i + 1) by omega] at this
  | o :: l, some e :: nd, k, h, 0, o', d, ho, hd => by
    simp at ho hd
    subst ho hd
    exact h.1
  | o :: l, some e :: nd, k, h, i + 1, o', d, ho, hd => by
    have := all_getY l nd (k + 1) h.2 i o' d (by simpa using ho) (by simpa using hd)
    rwa [show k + 1 + i = k + (i + 1) by omega] at this
theorem u_stepY {U : Nat → World → Prop} (hU : ∀ i j w w', i ≠ j → waits ops i j = false → U j w → E i w w' → U j w') {L : Array Bool} {i : Nat} {w w' : World} (hr : i ∈ Region.ready .any ops L) (hi : i < L.size) (h : ∀ j, L.getD j false = false → U j w) (he : E i w w') : ∀ j, (L.setIfInBounds i true).getD j false = false → U j w' := by
  intro j hj
  by_cases hij : i = j
  · subst hij
    rw [set_at hi] at hj; cases hj
  · rw [getD_set_ne false hij] at hj
    obtain ⟨_, o, ho, hall⟩ := mem_ready.1 hr
    refine hU i j w w' hij ?_ (h j hj) he
    unfold waits
    rw [ho]
    simp only
    rw [Array.any_eq_false']
    intro e hem hb
    rw [Bool.and_eq_true] at hb
    have h1 := hall e hem hb.1
    have h2 : e.on = j := by simpa using hb.2
    rw [h2, hj] at h1
    cases h1
theorem any_tailY {U : Nat → World → Prop} {l : List Oper} {s N : Nat} {nd : List (Option (List (Nat × Tmp)))} (hs : s < l.length) (H : Ok l.toArray s N rf nd) (hT : Region.seqB .any l.toArray (l.length - s) s (upTo l.length s) = true) (hN : a0.tmps.size = N) (hC : ∀ i w w', C w → E i w w' → C w')
    (hR : ∀ i j v w w', i ≠ j → waits l.toArray j i = false → R j v w → E i w w' → R j v w') (hU : ∀ i j w w', i ≠ j → waits l.toArray i j = false → U j w → E i w w' → U j w') (hA : AllY U E rf P l.toArray R C a0 0 l nd)
    (hF : ∀ w, C w → Obs l.toArray R w (fun c => (∀ x ∈ rf, rf.lookup x.1 = some x.2 → R x.1 (look c (some x.2)) w) → wpList P l.toArray Q (l.drop s) c w) (heads l.toArray s) a0) :
    ∀ (fuel : Nat) (L : Array Bool) (a : Act) (w : World), L.toList.count false = fuel → Inv rf C R l.toArray a0 s L a w → (∀ j, L.getD j false = false → U j w) → wpAny P .any l.toArray Q fuel L a w := by
  have hsl : s < l.toArray.size := by simpa using hs
  intro fuel
  induction fuel with
  | zero =>
    intro L a w hc I hu
    have h1 := none_left (L := L) (by omega) s
    have h2 := getD_in (by rw [I.len]; exact hsl) (I.tail s (Nat.le_refl _))
    rw [h1] at h2; cases h2
  | succ fuel ih =>
    intro L a w hc I hu
    by_cases hall : ∀ i, i < s → L.getD i false = true
    · have hul : L = upTo l.length s := is_upTo (by rw [I.len]; simp) hall I.tail
      have hcc := count_upTo l.length s (by omega)
      rw [← hul, hc] at hcc
      have h1 := all_done H I (fun i h _ => hall i h) (hF w I.c) fun x hx hlk => by
        obtain ⟨h1, h2, _⟩ := H.refs x.1 x.2 hlk
        have := I.right x.1 (hall x.1 h2) (by rw [h1]; simp only [slot, hlk]; rfl)
        rw [h1] at this
        simp only [slot, hlk] at this
        exact this
      have := wpAny_of_seq (md := .any) (Q' := Q) (l.drop s) s L a w (fun j => by simp [List.getElem?_drop]) (by rw [hul, List.length_drop]; exact hT) h1
      rwa [List.length_drop, ← hcc] at this
    · refine ⟨fun h0 => absurd h0 (some_ready H I.len (s + 1) s (by omega) hsl (getD_in (by rw [I.len]; exact hsl) (I.tail s (Nat.le_refl _)))), fun i hi => ?_⟩
      have his : i < s := by
        rcases Nat.lt_trichotomy i s with h | h | h
        · exact h
        · subst h; exact absurd (fun j hj => tail_last H I hi (i - j + 1) j (by omega) hj) hall
        · exact (no_tail H I h hi).elim
      obtain ⟨hun, o, ho, _⟩ := mem_ready.1 hi
      have hin : i < l.toArray.size := (Array.getElem?_eq_some_iff.1 ho).1
      have hiL : i < L.size := by rw [I.len]; exact hin
      refine step_opY H hN hC hR I his hi (fun o' d ho' hnd => ?_) fun a' w' I' he => ih _ _ _ (by have := count_set (mem_ready.1 hi).1; omega) I' (u_stepY hU hi hiL hu he)
      have := all_getY l nd 0 hA i o' d (by simpa using ho') hnd
      rw [Nat.zero_add] at this
      exact this w I.c (hu i (getD_both hun))
/-- **The rule.** -/
theorem region_tailY {id : Nat} {l : List Oper} {w : World} (E : Nat → World → World → Prop) (U : Nat → World → Prop) (s N : Nat) (rf : List (Nat × Tmp)) (nd : List (Option (List (Nat × Tmp)))) (hd : List (Nat × Tmp)) (C : World → Prop) (R : Nat → Value → World → Prop) (hm : P.follows .mixedOrders = true) (hs : decide (s < l.length) = true) (hB : okB l.toArray s N rf nd = true)
    (hT : Region.seqB .any l.toArray (l.length - s) s (upTo l.length s) = true) (hN : a0.tmps.size = N) (hC : ∀ i w w', C w → E i w w' → C w') (hR : ∀ i j v w w', i ≠ j → waits l.toArray j i = false → R j v w → E i w w' → R j v w') (hU : ∀ i j w w', i ≠ j → waits l.toArray i j = false → U j w → E i w w' → U j w')
    (h0 : C w.drew) (hU0 : ∀ j, U j w.drew) (hH : heads l.toArray s = hd) (hA : AllY U E rf P l.toArray R C a0 0 l nd)
    (hF : ∀ w, C w → Obs l.toArray R w (fun c => (∀ x ∈ rf, rf.lookup x.1 = some x.2 → R x.1 (look c (some x.2)) w) → wpList P l.toArray Q (l.drop s) c w) hd a0) : (Code.region id l.toArray true).wp P Q a0 w :=
  wp_region_any hm (by
    subst hH
    exact any_tailY (Q := Q) (E := E) (U := U) (of_decide_eq_true hs) (ok_of hB) hT hN hC hR hU hA hF _ _ a0 w.drew (by simp) (inv_start h0) (fun j _ => hU0 j))
end
end Go.Proofs.Ytejjafmppihneaa.reg

/- Appends onto rows of frames whose bodies are shared, within a region that draws its order. Condition: none. -/
namespace Go.Proofs.Ytejjafmppihneaa.ro
open Go.RowKit sl harn bx stw
open ux (Nf Rob RR OO row rowB rowNf nf rob own_more)
open mrw (blkOf grown_below)
set_option linter.unusedVariables false
set_option linter.unusedSimpArgs false

/-- Blocks below B as before; the others as before, or a row's block whose first L cells are as before. -/
def Gr (B L : Nat) (w w' : World) : Prop := Below B w w' ∧ ∀ (g : Nat) (c : Obj), w.heap[g]? = some c → w'.heap[g]? = some c ∨ (2 ≤ L ∧ ∃ (cur cur' : Array Value), c = Obj.cells cur 90 (0, 0) ∧ w'.heap[g]? = some (Obj.cells cur' 90 (0, 0)) ∧ cur'.size = cur.size ∧ cur'.toList.take L = cur.toList.take L)
theorem Gr.of_below {B L : Nat} {w w' : World} (h : Below w.heap.size w w') (hB : B ≤ w.heap.size) : Gr B L w w' := ⟨h.mono hB, fun g c hg => .inl ((h.block g (lt_of_block hg)).trans hg)⟩
/-- A row of frames of the call's own; the bodies' blocks meet F. -/
def GF (F : Nat → Prop) (B : Nat) (w : World) (n : Nat) (xs : List Nf) (v : Value) : Prop :=
  ∃ (A : Option Addr) (c : Nat) (L : List Value), v = .slice A n c ∧ w.ownsRow B 90 2 (.slice A n c) n L ∧ (n = 0 → c = 0) ∧ xs.length = n ∧ ∀ i x, xs[i]? = some x → ∃ A0 n0 c0, L[i * 2]? = some (Value.int .i64 x.Seq) ∧ L[i * 2 + 1]? = some (Value.slice A0 n0 c0) ∧ BF F w A0 n0 c0 x.Body
section
variable {F : Nat → Prop} {B L n : Nat} {w w' : World} {xs : List Nf} {v : Value}
theorem bf_gr {A : Option Addr} {m c : Nat} {zs : List Int} (h : BF F w A m c zs) (hg : Gr B L w w') (hF : ∀ b, F b → b < B) : BF F w' A m c zs := by
  obtain ⟨h1, h2, h3, h4, h5⟩ := h
  refine ⟨h1, h2, h3, h4, fun hn => ?_⟩
  obtain ⟨b, off, e, g1, g2, g3⟩ := h5 hn
  exact ⟨b, off, e, g1, Nat.lt_of_lt_of_le g2 hg.1.size, fun i hi => (World.cell?_of_block (hg.1.block b (hF b g1))).trans (g3 i hi)⟩
theorem GF.gr (h : GF F B w n xs v) (hg : Gr B L w w') (hF : ∀ b, F b → b < B) (hL : n * 2 ≤ L) : GF F B w' n xs v := by
  obtain ⟨A, c, M, e, ⟨h1, h2⟩, h3, h4, h5⟩ := h
  refine ⟨A, c, M, e, ⟨h1, ?_⟩, h3, h4, fun i x hx => ?_⟩
  · rcases h2 with h2 | ⟨g, c', cur, e2, r1, r2, r3, r4, r5, r6⟩
    · exact .inl h2
    · rcases hg.2 g _ r2 with q | ⟨_, cur1, cur', q1, q2, q3, q4⟩
      · exact .inr ⟨g, c', cur, e2, r1, q, r3, r4, r5, r6⟩
      · injection q1 with q1 _ _
        subst q1
        refine .inr ⟨g, c', cur', e2, r1, q2, r3, r4, by rw [q3]; exact r5, ?_⟩
        have t1 : cur'.toList.take (n * 2) = (cur'.toList.take L).take (n * 2) := by rw [List.take_take, Nat.min_eq_left hL]
        have t2 : cur.toList.take (n * 2) = (cur.toList.take L).take (n * 2) := by rw [List.take_take, Nat.min_eq_left hL]
        rw [t1, q4, ← t2]; exact r6
  · obtain ⟨A0, n0, c0, q1, q2, q3⟩ := h5 i x hx
    exact ⟨A0, n0, c0, q1, q2, bf_gr q3 hg hF⟩
theorem GF.below (h : GF F B w n xs v) (hb : Below w.heap.size w w') (hB : B ≤ w.heap.size) (hF : ∀ b, F b → b < B) : GF F B w' n xs v := h.gr (L := n * 2) (Gr.of_below hb hB) hF (Nat.le_refl _)
/-- A block of one frame. -/
theorem one_gr {q : Nat} {a b : Value} (h : Bx 90 w q #[a, b]) (hg : Gr B L w w') : Bx 90 w' q #[a, b] := by
  rcases hg.2 q _ h with h1 | ⟨h2, cur, cur', q1, q2, q3, q4⟩
  · exact h1
  · injection q1 with q1 _ _
    subst q1
    have e : cur' = #[a, b] := by
      apply Array.toList_inj.1
      have h3 : cur'.toList.length = 2 := by rw [Array.length_toList, q3]; rfl
      rw [← List.take_of_length_le (show cur'.toList.length ≤ L by omega), q4, List.take_of_length_le (by simpa using h2)]
    rw [← e]; exact q2
theorem GF.empty {q : Nat} (F : Nat → Prop) (h : Bx 90 w q #[]) (hq : B ≤ q) : GF F B w 0 [] (.slice (some ⟨q, 0, none⟩) 0 0) :=
  ⟨_, 0, [], rfl, ⟨rfl, .inr ⟨q, 0, #[], rfl, hq, h, Nat.le_refl _, by unfold maxLen; omega, rfl, rfl⟩⟩, fun _ => rfl, rfl, fun i x hx => by simp at hx⟩
end
set_option maxRecDepth 100000 in
/-- The append itself: m frames whose cells lie at an address. -/
theorem gf_more {F : Nat → Prop} {B n m c : Nat} {w : World} {xs ys : List Nf} {A : Option Addr} {cap : Nat} (ty : TypeId) (h : GF F B w n xs (.slice A n cap)) (hF : ∀ b, F b → b < B) (hB : B ≤ w.heap.size) (ad : Addr) {M : List Value} (hm : M.length = m * 2) (hone : ∀ u ∈ M, u.oneCell' = true) (hsrc : ∀ j u, M[j]? = some u → w.cell? (ad.add j) = some u)
    (hys : ys.length = m) (hel : ∀ i x, ys[i]? = some x → ∃ A0 n0 c0, M[i * 2]? = some (Value.int .i64 x.Seq) ∧ M[i * 2 + 1]? = some (Value.slice A0 n0 c0) ∧ BF F w A0 n0 c0 x.Body) (hn : n + m ≤ 1073741824) (hpos : 0 < m) :
    ∃ A' cap' w', (Builtin.append_ #[48, 48] ty #[.slice A n cap, .slice (some ad) m c]).run Try.prog w = .ok (.slice A' (n + m) cap') w' ∧ GF F B w' (n + m) (xs ++ ys) (.slice A' (n + m) cap') ∧ Gr B (n * 2) w w' := by
  obtain ⟨A9, c9, L, e, hr, h0, hl, hx⟩ := h
  injection e with e1 _ e2
  subst e1 e2
  obtain ⟨i0, hi0, hz0, hz1, hz2⟩ := info_parts infoNF
  obtain ⟨A', cap', w', hrun, g1, g2, g3, g4⟩ := own_more (P := Try.prog) 48 ty i0 (.agg #[.int .i64 0, .slice none 0 0]) Try.underlying48 hi0 hz0 hz1 (by omega) rfl (by omega) hr hone ad m c hm hsrc hn hB
  have hgr : Gr B (n * 2) w w' := by
    refine ⟨⟨g2.os, g2.tape, g2.output, g2.size, fun b hb => g2.block b (by omega) fun e => ?_⟩, fun g cc hg => ?_⟩
    · rcases hr.2 with ⟨e3, _⟩ | ⟨g, c', cur, e3, q1, _⟩
      · injection e3 with e3 _ _; rw [e3] at e; cases e
      · injection e3 with e3 _ _; rw [e3] at e
        have : b = g := by simpa [blkOf] using e
        omega
    · by_cases hbk : some g = blkOf A
      · rcases hr.2 with ⟨e3, _⟩ | ⟨g', c', cur, e3, q1, q2, q3, q4, q5, q6⟩
        · injection e3 with e3 _ _; rw [e3] at hbk; cases hbk
        · injection e3 with e3 _ e5; rw [e3] at hbk
          obtain rfl : g = g' := by simpa [blkOf] using hbk
          rcases g3.2 with ⟨e4, _⟩ | ⟨g9, c8, cur', e4, s1, s2, s3, s4, s5, s6⟩
          · injection e4 with e4 _ _; rw [e3] at e4; cases e4
          · injection e4 with e4 _ e6
            rw [e3] at e4
            obtain rfl : g = g9 := by injection e4 with e4; injection e4
            rw [q2] at hg
            obtain rfl : Obj.cells cur 90 (0, 0) = cc := Option.some.inj hg
            rcases Nat.eq_zero_or_pos n with hn0 | hn0
            · left
              have hc0 := h0 hn0
              have z1 : cur.size = 0 := by rw [q5, ← e5, hc0]
              have z2 : cur'.size = 0 := by rw [s5, ← e6, hc0]
              rw [s2, Array.eq_empty_of_size_eq_zero z1, Array.eq_empty_of_size_eq_zero z2]
            · exact .inr ⟨by omega, cur, cur', rfl, s2, by rw [s5, q5, ← e5, ← e6], by rw [s6, q6]⟩
      · left
        exact (g2.block g (lt_of_block hg) hbk).trans hg
  refine ⟨A', cap', w', hrun, ⟨A', cap', L ++ M, rfl, g1, fun h9 => by omega, by rw [List.length_append, hl, hys], fun i x hix => ?_⟩, hgr⟩
  have hLl : L.length = n * 2 := hr.1
  rcases Nat.lt_or_ge i n with hlt | hge
  · rw [List.getElem?_append_left (by omega)] at hix
    obtain ⟨A0, n0, c0, r1, r2, r3⟩ := hx i x hix
    exact ⟨A0, n0, c0, by rw [List.getElem?_append_left (by omega)]; exact r1, by rw [List.getElem?_append_left (by omega)]; exact r2, bf_gr r3 hgr hF⟩
  · rw [List.getElem?_append_right (by omega), hl] at hix
    obtain ⟨A0, n0, c0, r1, r2, r3⟩ := hel (i - n) x hix
    exact ⟨A0, n0, c0, by rw [List.getElem?_append_right (by omega), hLl, show i * 2 - n * 2 = (i - n) * 2 by omega]; exact r1, by rw [List.getElem?_append_right (by omega), hLl, show i * 2 + 1 - n * 2 = (i - n) * 2 + 1 by omega]; exact r2, bf_gr r3 hgr hF⟩
/-- The row handed on as a slice that is read. -/
theorem GF.nf {F G : Nat → Prop} {B n : Nat} {w : World} {xs : List Nf} {A : Option Addr} {c : Nat} (h : GF F B w n xs (.slice A n c)) (hf : ∀ b, F b → G b) (hA : ∀ g, blkOf A = some g → G g) (hc : c ≤ maxLen) (hF : ∀ b, F b → b < B) : NF G w A n c xs := by
  obtain ⟨A9, c9, L, e, ⟨h1, h2⟩, h0, hl, hx⟩ := h
  injection e with e1 _ e2
  subst e1 e2
  rcases h2 with ⟨e3, rfl⟩ | ⟨g, c', cur, e3, q1, q2, q3, q4, q5, q6⟩
  · obtain rfl : xs = [] := List.length_eq_zero_iff.1 hl
    injection e3 with q1 _ q3
    subst q1 q3
    exact NF.nil G w none hc (Rm.zero G w none 0)
  · injection e3 with e3 _ e5
    subst e3 e5
    refine ⟨hl, q3, q4, fun hn => ⟨g, 0, rfl, hA g rfl, lt_of_block q2, fun i x hix => ?_⟩, fun _ => ⟨g, 0, cur, rfl, hA g rfl, q2, by omega, fun j b0 o0 n0 c0 hj hv h0 => ?_⟩⟩
    rotate_left
    · have hLj : L[j]? = some (Value.slice (some ⟨b0, o0, none⟩) n0 c0) := by
        rw [← q6, List.getElem?_take_of_lt (by omega), Array.getElem?_toList]; exact hv
      have hi : j / 2 < xs.length := by omega
      obtain ⟨A0, m0, d0, r1, r2, r3⟩ := hx (j / 2) _ (List.getElem?_eq_getElem hi)
      rcases Nat.mod_two_eq_zero_or_one j with e | e
      · rw [show j / 2 * 2 = j by omega, hLj] at r1; cases r1
      · rw [show j / 2 * 2 + 1 = j by omega, hLj] at r2
        injection r2 with r2
        injection r2 with e1 e2 e3
        subst e1 e2 e3
        obtain ⟨_, _, _, _, r4⟩ := r3
        obtain ⟨b9, o9, e9, f9, _⟩ := r4 h0
        injection e9 with e9
        injection e9 with e9 _
        subst e9
        have := hF _ f9
        omega
    obtain ⟨A0, n0, c0, r1, r2, r3⟩ := hx i x hix
    have hin : i < n := by have := (List.getElem?_eq_some_iff.1 hix).1; omega
    have cell : ∀ j u, L[j]? = some u → w.cell? ⟨g, j, none⟩ = some u := fun j u hj => by
      have hjl : j < n * 2 := by have := (List.getElem?_eq_some_iff.1 hj).1; omega
      rw [← q6, List.getElem?_take_of_lt hjl, Array.getElem?_toList] at hj
      simp [World.cell?, q2]
      simpa using hj
    exact ⟨A0, n0, c0, by rw [Nat.zero_add]; exact cell _ _ r1, by rw [Nat.zero_add]; exact cell _ _ r2, r3.mono hf⟩
end Go.Proofs.Ytejjafmppihneaa.ro

/- Appends of shared frames as operations of a region, parts of slices of frames, and the values of such a region. Condition: sizes up to 2^26. -/
namespace Go.Proofs.Ytejjafmppihneaa.ro
open Go.RowKit sl harn bx stw
open ux (Nf Rob RR OO row rowB rowNf nf rob own_more)
open mrw (blkOf grown_below)
set_option linter.unusedVariables false
set_option linter.unusedSimpArgs false

/-- Frames whose cells lie at an address. -/
def Src (F : Nat → Prop) (w : World) (S : Option Addr) (m : Nat) (ys : List Nf) : Prop :=
  ys.length = m ∧ (0 < m → ∃ (ad : Addr) (M : List Value), S = some ad ∧ M.length = m * 2 ∧ (∀ u ∈ M, u.oneCell' = true) ∧ (∀ j u, M[j]? = some u → w.cell? (ad.add j) = some u) ∧ ∀ i x, ys[i]? = some x → ∃ A0 n0 c0, M[i * 2]? = some (Value.int .i64 x.Seq) ∧ M[i * 2 + 1]? = some (Value.slice A0 n0 c0) ∧ BF F w A0 n0 c0 x.Body)
theorem add_at (b off j : Nat) : (⟨b, off, none⟩ : Addr).add j = ⟨b, off + j, none⟩ := by unfold Addr.add; split <;> simp_all
section
variable {F : Nat → Prop} {B L n m c k q : Nat} {w w' : World} {xs ys : List Nf} {A S : Option Addr} {x : Nf}
theorem NF.src (h : NF F w A n c xs) : Src F w A n xs := by
  obtain ⟨h1, h2, h3, h5, _⟩ := h
  refine ⟨h1, fun hn => ?_⟩
  obtain ⟨b, off, e, g1, g2, g3⟩ := h5 hn
  have cell : ∀ j, j < n * 2 → ∃ u, w.cell? ⟨b, off + j, none⟩ = some u ∧ u.oneCell' = true := fun j hj => by
    have hx : xs[j / 2]? = some (xs[j / 2]'(by omega)) := List.getElem?_eq_getElem (by omega)
    obtain ⟨A0, n0, c0, r1, r2, r3⟩ := g3 (j / 2) _ hx
    rcases Nat.mod_two_eq_zero_or_one j with h0 | h0
    · exact ⟨_, by rw [show off + j = off + j / 2 * 2 by omega]; exact r1, rfl⟩
    · exact ⟨_, by rw [show off + j = off + j / 2 * 2 + 1 by omega]; exact r2, rfl⟩
  have at_ : ∀ j, j < n * 2 → ∀ u, w.cell? ⟨b, off + j, none⟩ = some u → ((List.range (n * 2)).map fun j => (w.cell? ⟨b, off + j, none⟩).getD undef)[j]? = some u := fun j hj u hu => by
    rw [List.getElem?_map, List.getElem?_range hj]; simp [hu]
  refine ⟨⟨b, off, none⟩, (List.range (n * 2)).map fun j => (w.cell? ⟨b, off + j, none⟩).getD undef, e, by simp, fun u hu => ?_, fun j u hj => ?_, fun i x hx => ?_⟩
  · obtain ⟨j, hj, rfl⟩ := List.mem_map.1 hu
    obtain ⟨u, hu, h9⟩ := cell j (List.mem_range.1 hj)
    rw [hu]; exact h9
  · have hjl : j < n * 2 := by have := (List.getElem?_eq_some_iff.1 hj).1; simpa using this
    obtain ⟨u', hu', _⟩ := cell j hjl
    rw [at_ j hjl u' hu'] at hj
    obtain rfl : u' = u := Option.some.inj hj
    rw [add_at]; exact hu'
  · obtain ⟨A0, n0, c0, r1, r2, r3⟩ := g3 i x hx
    have hi : i < n := by have := (List.getElem?_eq_some_iff.1 hx).1; omega
    exact ⟨A0, n0, c0, at_ _ (by omega) _ r1, at_ _ (by omega) _ (by rw [← Nat.add_assoc]; exact r2), r3⟩
theorem src_one {A0 : Option Addr} {n0 c0 : Nat} (h : Bx 90 w q #[.int .i64 x.Seq, .slice A0 n0 c0]) (hb : BF F w A0 n0 c0 x.Body) : Src F w (some ⟨q, 0, none⟩) 1 [x] := by
  refine ⟨rfl, fun _ => ⟨⟨q, 0, none⟩, [.int .i64 x.Seq, .slice A0 n0 c0], rfl, rfl, fun u hu => ?_, fun j u hj => ?_, fun i y hy => ?_⟩⟩
  · rcases List.mem_cons.1 hu with rfl | hu
    · rfl
    · rw [List.mem_singleton.1 hu]; rfl
  · rw [add_at, Nat.zero_add]
    match j, hj with
    | 0, hj => obtain rfl : Value.int .i64 x.Seq = u := by simpa using hj
               exact h.cell 0
    | 1, hj => obtain rfl : Value.slice A0 n0 c0 = u := by simpa using hj
               exact h.cell 1
    | j + 2, hj => simp at hj
  · match i, hy with
    | 0, hy => obtain rfl : x = y := by simpa using hy
               exact ⟨A0, n0, c0, rfl, rfl, hb⟩
    | i + 1, hy => simp at hy
theorem Gr.zero (h : Gr B 0 w w') : Gr B L w w' := ⟨h.1, fun g c hg => (h.2 g c hg).elim .inl fun h2 => absurd h2.1 (by omega)⟩
theorem Gr.refl (w : World) : Gr B L w w := ⟨Below.refl _ _, fun g c hg => .inl hg⟩
set_option maxRecDepth 100000 in
theorem gf_app {cap : Nat} (ty : TypeId) (h : GF F B w n xs (.slice A n cap)) (hF : ∀ b, F b → b < B) (hB : B ≤ w.heap.size) (hs : Src F w S m ys) (hn : n + m ≤ 1073741824) :
    ∃ A' cap' w', (Builtin.append_ #[48, 48] ty #[.slice A n cap, .slice S m c]).run Try.prog w = .ok (.slice A' (n + m) cap') w' ∧ GF F B w' (n + m) (xs ++ ys) (.slice A' (n + m) cap') ∧ Gr B (n * 2) w w' := by
  obtain ⟨h1, h2⟩ := hs
  rcases Nat.eq_zero_or_pos m with h0 | h0
  · subst h0
    obtain rfl : ys = [] := List.eq_nil_of_length_eq_zero h1
    refine ⟨A, cap, w, ?_, by simpa using h, Gr.refl w⟩
    obtain ⟨A9, c9, L, e, ⟨g0, hr⟩, _⟩ := h
    injection e with e1 _ e2; subst e1 e2
    obtain ⟨i0, hi0, hz0, hz1, hz2⟩ := info_parts infoNF
    rcases hr with ⟨e, _⟩ | ⟨g, c', cur, e, _, q2, q3, q4, q5, q6⟩
    · injection e with e1 e2 e3; subst e1 e2 e3
      cases S <;> simp [Builtin.append_, run_underlying Try.underlying48, sizeOf, typeInfo, hi0, Builtin.lenOf, Builtin.firstCells, loadCells, loadCellsFrom]
    · injection e with e1 _ e3; subst e1 e3
      cases S <;> simp [Builtin.append_, run_underlying Try.underlying48, sizeOf, typeInfo, hi0, Builtin.lenOf, Builtin.firstCells, loadCells, loadCellsFrom, q3, storeCells]
  · obtain ⟨ad, M, rfl, k1, k2, k3, k4⟩ := h2 h0
    exact gf_more ty h hF hB ad k1 k2 k3 h1 k4 hn h0
theorem wp_gf {o : Oper} {a : Act} {K : Act → World → Prop} {Q : Exit → Act → World → Prop} {cap : Nat} (s x : Operand)
    (hop : o.op = .call { callee := .builtin .append, args := #[s, x], argTypes := #[48, 48] })
    (hs : a.eval s = .slice A n cap) (hx : a.eval x = .slice S m c) (h : GF F B w n xs (.slice A n cap)) (hF : ∀ b, F b → b < B) (hB : B ≤ w.heap.size) (hy : Src F w S m ys) (hn : n + m ≤ 1073741824)
    (hK : ∀ A' cap' w', GF F B w' (n + m) (xs ++ ys) (.slice A' (n + m) cap') → Gr B (n * 2) w w' → K (a.put o.dst (.slice A' (n + m) cap')) w') : Oper.wp Try.prog o a w K Q := by
  obtain ⟨A', cap', w', hrun, g1, g2⟩ := gf_app (c := c) o.type h hF hB hy hn
  unfold Oper.wp execOp
  simp only [hop, resolve, invoke, builtin, Sem.run_bind, Sem.run_pure, Result.andThen_ok, List.map_toArray, List.map_cons, List.map_nil, hs, hx, hrun]
  exact hK A' cap' w' g1 g2
theorem nf_pre (A : Option Addr) (hk : k ≤ n) (hc : n ≤ c) : ∃ A', (0 < c → A' = A) ∧ ∀ W, (Instr.sliceAt 48 (.slice A n c) none (some (.int .i64 k)) none).run Try.prog W = .ok (.slice A' k c) W := by
  cases hq : Try.prog.info? 90 with
  | none => have := ux.szNf; simp [hq] at this
  | some i =>
    have hi : i.size = 2 := by have := ux.szNf; simpa [hq] using this
    refine ⟨if c = 0 then A else A.map (·.add (0 * 2)), fun h => ?_, fun W => ?_⟩
    · rw [if_neg (by omega)]; cases A <;> simp [Addr.add]
    · have hj2 : (k : Int) ≤ c := by omega
      simp [Instr.sliceAt, Instr.slice, run_underlying Try.underlying48, Instr.sureAddr, Instr.sliceBounds, Instr.sliceBound, sizeOf, typeInfo, hq, hi, go_sem]
      first | done | (split <;> rfl) | (intro h; omega)
theorem nf_post (A : Option Addr) (hk : k ≤ n) (hc : n ≤ c) : ∃ A', (k < c → A' = A.map (·.add (k * 2))) ∧ ∀ W, (Instr.sliceAt 48 (.slice A n c) (some (.int .i64 k)) none none).run Try.prog W = .ok (.slice A' (n - k) (c - k)) W := by
  cases hq : Try.prog.info? 90 with
  | none => have := ux.szNf; simp [hq] at this
  | some i =>
    have hi : i.size = 2 := by have := ux.szNf; simpa [hq] using this
    refine ⟨if c = k then A else A.map (·.add (k * 2)), fun h => ?_, fun W => ?_⟩
    · rw [if_neg (by omega)]
    · have hj2 : (k : Int) ≤ n := by omega
      simp [Instr.sliceAt, Instr.slice, run_underlying Try.underlying48, Instr.sureAddr, Instr.sliceBounds, Instr.sliceBound, sizeOf, typeInfo, hq, hi, go_sem]
      first | done | (split <;> rfl) | (intro h; omega)
theorem NF.take {A' : Option Addr} (h : NF F w A n c xs) (hk : k ≤ n) (hA : 0 < c → A' = A) : NF F w A' k c (xs.take k) := by
  obtain ⟨h1, h2, h3, h5, h6⟩ := h
  refine ⟨by rw [List.length_take]; omega, by omega, h3, fun hn => ?_, h6.take hk hA⟩
  obtain ⟨b, off, e, g1, g2, g3⟩ := h5 (by omega)
  refine ⟨b, off, (hA (by omega)).trans e, g1, g2, fun i x hx => g3 i x ?_⟩
  have hi := (List.getElem?_eq_some_iff.1 hx).1
  rw [List.length_take] at hi
  rw [List.getElem?_take_of_lt (by omega)] at hx; exact hx
theorem NF.drop {A' : Option Addr} (h : NF F w A n c xs) (hk : k ≤ n) (hA : k < c → A' = A.map (·.add (k * 2))) : NF F w A' (n - k) (c - k) (xs.drop k) := by
  obtain ⟨h1, h2, h3, h5, h6⟩ := h
  refine ⟨by rw [List.length_drop]; omega, by omega, by omega, fun hn => ?_, h6.drop hk hA⟩
  obtain ⟨b, off, e, g1, g2, g3⟩ := h5 (by omega)
  refine ⟨b, off + k * 2, by rw [hA (by omega), e, Option.map_some, add_at], g1, g2, fun i x hx => ?_⟩
  rw [List.getElem?_drop] at hx
  obtain ⟨A0, n0, c0, r1, r2, r3⟩ := g3 _ _ hx
  exact ⟨A0, n0, c0, by rw [show off + k * 2 + i * 2 = off + (k + i) * 2 by omega]; exact r1, by rw [show off + k * 2 + i * 2 + 1 = off + (k + i) * 2 + 1 by omega]; exact r2, r3⟩
theorem GF.blk {cap : Nat} (h : GF F B w n xs (.slice A n cap)) : (∀ g, blkOf A = some g → B ≤ g ∧ g < w.heap.size) ∧ cap ≤ maxLen ∧ n ≤ cap := by
  obtain ⟨A9, c9, L, e, ⟨g0, hr⟩, _⟩ := h
  injection e with e1 _ e2; subst e1 e2
  rcases hr with ⟨e, _⟩ | ⟨g, c', cur, e, q1, q2, q3, q4, q5, q6⟩
  · injection e with e1 e2 e3; subst e1 e2 e3
    exact ⟨(fun g hg => by cases hg), by unfold maxLen; omega, Nat.le_refl _⟩
  · injection e with e1 _ e3; subst e1 e3
    refine ⟨fun g9 hg => ?_, q4, q3⟩
    obtain rfl : g = g9 := by simpa [blkOf] using hg
    exact ⟨q1, lt_of_block q2⟩
theorem GF.open_ {v : Value} (h : GF F B w n xs v) : ∃ A cap, v = .slice A n cap ∧ GF F B w n xs (.slice A n cap) := by
  obtain ⟨A, c, L, e, h2⟩ := h
  exact ⟨A, c, e, A, c, L, rfl, h2⟩
end
/-- What the operations of the region that puts a frame into a list may change. -/
def E14 (B k i : Nat) (w w' : World) : Prop := Gr B (if i = 8 then k * 2 else if i = 13 then (k + 1) * 2 else 0) w w'
/-- .. and their values. -/
def R14 (F : Nat → Prop) (B k n : Nat) (xs : List Nf) (f : Nf) (A0 : Option Addr) (n0 c0 : Nat) (is : List (Nat × Value)) (j : Nat) (v : Value) (w : World) : Prop :=
  if j = 0 then GF F B w 0 [] v else if j = 5 then GF F B w k (xs.take k) v else if j = 7 then (∃ q, v = .slice (some ⟨q, 0, none⟩) 1 1 ∧ Bx 90 w q #[.int .i64 f.Seq, .slice A0 n0 c0]) else if j = 8 then GF F B w (k + 1) (xs.take k ++ [f]) v else if j = 13 then GF F B w (n + 1) (xs.take k ++ [f] ++ xs.drop k) v else match is.lookup j with | some u => v = u | none => True
theorem r14_keep {F : Nat → Prop} {B k n : Nat} {xs : List Nf} {f : Nf} {A0 : Option Addr} {n0 c0 : Nat} {is : List (Nat × Value)} {ops : Array Oper} (hw : reg.waits ops 13 8 = true) (hF : ∀ b, F b → b < B) :
    ∀ i j v w w', i ≠ j → reg.waits ops j i = false → R14 F B k n xs f A0 n0 c0 is j v w → E14 B k i w w' → R14 F B k n xs f A0 n0 c0 is j v w' := by
  intro i j v w w' hij hwt h hg
  have key : ∀ L, Gr B L w w' → (L = 0 ∨ (j ≠ 13 ∧ j ≠ 8 ∧ L = k * 2) ∨ (j ≠ 13 ∧ L = (k + 1) * 2)) → R14 F B k n xs f A0 n0 c0 is j v w' := by
    intro L hL hc
    unfold R14 at h ⊢
    have gf : ∀ {m : Nat} {zs : List Nf}, GF F B w m zs v → (L ≠ 0 → m * 2 ≤ L) → GF F B w' m zs v := fun {m zs} h9 hm => by
      rcases Nat.eq_zero_or_pos L with h0 | h0
      · subst h0; exact h9.gr (Gr.zero hL) hF (Nat.le_refl _)
      · exact h9.gr hL hF (hm (by omega))
    by_cases j0 : j = 0
    · rw [if_pos j0] at h ⊢; exact gf h (fun _ => by omega)
    rw [if_neg j0] at h ⊢
    by_cases j5 : j = 5
    · rw [if_pos j5] at h ⊢; exact gf h (fun h0 => by omega)
    rw [if_neg j5] at h ⊢
    by_cases j7 : j = 7
    · rw [if_pos j7] at h ⊢
      obtain ⟨q, e, h9⟩ := h
      exact ⟨q, e, one_gr h9 hL⟩
    rw [if_neg j7] at h ⊢
    by_cases j8 : j = 8
    · rw [if_pos j8] at h ⊢; exact gf h (fun h0 => by omega)
    rw [if_neg j8] at h ⊢
    by_cases j13 : j = 13
    · rw [if_pos j13] at h ⊢; exact gf h (fun h0 => by omega)
    rw [if_neg j13] at h ⊢
    exact h
  unfold E14 at hg
  by_cases i8 : i = 8
  · rw [if_pos i8] at hg
    refine key _ hg (.inr (.inl ⟨fun e => ?_, by omega, rfl⟩))
    subst e i8; rw [hw] at hwt; cases hwt
  rw [if_neg i8] at hg
  by_cases i13 : i = 13
  · rw [if_pos i13] at hg
    exact key _ hg (.inr (.inr ⟨by omega, rfl⟩))
  rw [if_neg i13] at hg
  exact key _ hg (.inl rfl)
/-- An append of bytes onto an empty row of the call's own, as a step of a list. -/
theorem list_app0 {P : Program} {w : World} {ops : Array Oper} {rest : List Oper} {o : Oper} {a : Act} {Q : Exit → Act → World → Prop} (hg : o.guard = none) (s x : Operand) (t : TypeId)
    (hop : o.op = .call { callee := .builtin .append, args := #[s, x], argTypes := #[t, t] })
    (E : TypeId) (i : TypeInfo) (z : Value) (k : IntKind) (h1 : P.underlying t = some (.slice E)) (h2 : P.info? E = some i) (h3 : i.zero = some z) (h4 : i.size = 1) (h5 : i.bytes ≤ 8) (h6 : z.cells.size = 1)
    {lo hi lo2 hi2 m c q : Nat} {B : Option Addr} {ys : List Int} (hs : a.eval s = .slice (some ⟨q, 0, none⟩) 0 0) (hx : a.eval x = .slice B m c) (ho : Ow E k w lo hi (some ⟨q, 0, none⟩) 0 0 []) (hr : Rd k w lo2 hi2 B m c ys) (hn : m ≤ 67108864) (hlo : lo ≤ w.heap.size)
    (hK : ∀ A' cap' w', Ow E k w' lo w'.heap.size A' m cap' ys → Below w.heap.size w w' → wpList P ops Q rest (a.put o.dst (.slice A' m cap')) w') : wpList P ops Q (o :: rest) a w :=
  wpList_plain hg fun K hK' => wp_app0 s x t hop E i z k h1 h2 h3 h4 h5 h6 hs hx ho hr hn hlo fun A' cap' w' g1 g2 => hK' _ _ (hK A' cap' w' g1 g2)
end Go.Proofs.Ytejjafmppihneaa.ro

/- Reorder buffers as data: a repetition changes nothing, what is missing, the window passed. Condition: none. -/
namespace Go.Proofs.Ytejjafmppihneaa.ro
open ux (Nf Rob)
open bs (nsq sqd)
set_option linter.unusedVariables false
theorem rd_may {r : Rob} {n : Int} (h : may r n = true) : vr r = true ∧ 0 ≤ sqd r.Start n ∧ sqd r.Start n ≤ 2047 := by
  unfold may at h
  rw [Bool.and_eq_true] at h
  exact ⟨h.1, of_decide_eq_true h.2⟩
theorem rd_no {r : Rob} {n : Int} {b : List Int} (h : (may r n && decide (b.length ≤ 100)) = false) : recv r n b = (r, []) := by unfold recv; rw [if_neg (by simp [h])]
theorem rd_bad {r : Rob} {n : Int} {b : List Int} (h : vr r = false) : recv r n b = (r, []) := rd_no (by unfold may; rw [h]; rfl)
/-- The window once the frame lies in it. -/
def put1 (t : St) (d : Nat) (b : List Int) : St := ⟨(advS t (d - 15)).s, kp (advS t (d - 15)).ws (d - (d - 15)) b, (advS t (d - 15)).out⟩
theorem rcvT_put (t : St) (d : Nat) (b : List Int) : rcvT t d b = runS (put1 t d b) := rfl
theorem rd_yes {r : Rob} {n : Int} {b : List Int} (h : (may r n && decide (b.length ≤ 100)) = true) : recv r n b = (buf (runS (put1 (start r) (sqd r.Start n).toNat b)), (runS (put1 (start r) (sqd r.Start n).toNat b)).out) := by unfold recv; rw [if_pos h]; rfl
theorem put_ok {r : Rob} (h : vr r = true) (d : Nat) {b : List Int} (hb : b.length ≤ 100) : (0 ≤ (put1 (start r) d b).s ∧ (put1 (start r) d b).s ≤ 4095) ∧ (put1 (start r) d b).ws.length = 16 ∧ ∀ x, some x ∈ (put1 (start r) d b).ws → x.length ≤ 100 := by
  have h1 := (vr_ok h).1
  refine ⟨adv_s _ _, ?_, fun x hx => ?_⟩
  · show (kp _ _ _).length = 16
    rw [kp_len, adv_len]; exact h1.len
  · rcases kp_mem hx with h2 | h2
    · rcases take_mem h2 with h3 | h3
      · exact h1.b x h3
      · cases h3
    · rw [h2]; exact hb
theorem recv_vr {r : Rob} {n : Int} {b : List Int} (h : vr r = true) : vr (recv r n b).1 = true := by
  cases hm : (may r n && decide (b.length ≤ 100)) with
  | false => rw [rd_no hm]; exact h
  | true =>
    rw [rd_yes hm]
    rw [Bool.and_eq_true] at hm
    obtain ⟨h1, h2, h3⟩ := put_ok h (sqd r.Start n).toNat (of_decide_eq_true hm.2)
    exact (ok_vr (run_ok h1 h2 h3)).1
/-- A repetition changes nothing. -/
theorem recv_twice {r : Rob} {n : Int} {b : List Int} (h : vr r = true) : recv (recv r n b).1 n b = ((recv r n b).1, []) := by
  cases hm : (may r n && decide (b.length ≤ 100)) with
  | false => rw [rd_no hm]; exact rd_no hm
  | true =>
    rw [rd_yes hm]
    have hm2 := hm
    rw [Bool.and_eq_true] at hm2
    have hb := of_decide_eq_true hm2.2
    obtain ⟨_, hd0, hd1⟩ := rd_may hm2.1
    obtain ⟨d, hd⟩ : ∃ d : Nat, sqd r.Start n = d := ⟨(sqd r.Start n).toNat, by omega⟩
    have hn := at_sqd hd0
    rw [hd] at hn
    rw [hd, Int.toNat_natCast]
    obtain ⟨h1, h2, h3⟩ := put_ok h d hb
    have hok := run_ok h1 h2 h3
    obtain ⟨hv, hws⟩ := ok_vr hok
    obtain ⟨p, hp⟩ : ∃ p, d - 15 = p := ⟨_, rfl⟩
    obtain ⟨j, hj⟩ : ∃ j, d - p = j := ⟨_, rfl⟩
    have hj15 : j ≤ 15 ∧ p + j = d := by omega
    have hs1 : (put1 (start r) d b).s = (r.Start + (p : Int)) % 4096 := by rw [← hp]; rfl
    have hat : ∃ c, (put1 (start r) d b).ws[j]? = some (some c) := by
      have e : (put1 (start r) d b).ws = kp (advS (start r) p).ws j b := by unfold put1; rw [hp, hj]
      rw [e]
      exact kp_at (by rw [adv_len, (vr_ok h).1.len]; omega)
    obtain ⟨t, ht⟩ : ∃ t, put1 (start r) d b = t := ⟨_, rfl⟩
    rw [ht] at hok hv hws hs1 hat h1 h2 h3 ⊢
    have hrl : rdy t.ws ≤ 16 := by have := rdy_le t.ws; omega
    have hrs : (runS t).s = (t.s + (rdy t.ws : Int)) % 4096 := rfl
    have hnj : n = (t.s + (j : Int)) % 4096 := by rw [hn, hs1]; omega
    have hbs : (buf (runS t)).Start = (runS t).s := rfl
    rcases Nat.lt_or_ge j (rdy t.ws) with hlt | hge
    · refine rd_no ?_
      have hneg : ¬ (0 ≤ sqd (buf (runS t)).Start n ∧ sqd (buf (runS t)).Start n ≤ 2047) := by
        rw [hbs, bs.sqd_in hok.s (by omega), hrs, hnj]
        omega
      unfold may
      rw [decide_eq_false hneg]
      simp
    · have hsq : sqd (buf (runS t)).Start n = ((j - rdy t.ws : Nat) : Int) := by
        rw [hbs, bs.sqd_in hok.s (by omega), hrs, hnj]
        omega
      have hm3 : (may (buf (runS t)) n && decide (b.length ≤ 100)) = true := by
        unfold may
        rw [show vr (buf (runS t)) = true from hv, hsq, decide_eq_true (show (0 : Int) ≤ ((j - rdy t.ws : Nat) : Int) ∧ ((j - rdy t.ws : Nat) : Int) ≤ 2047 by omega), decide_eq_true hb]
        rfl
      rw [rd_yes hm3, hsq, Int.toNat_natCast]
      have hst : start (buf (runS t)) = ⟨(runS t).s, (runS t).ws, []⟩ := by
        have e : (start (buf (runS t))).ws = (runS t).ws := hws
        show (⟨(runS t).s, (start (buf (runS t))).ws, []⟩ : St) = _
        rw [e]
      have hz : j - rdy t.ws - 15 = 0 := by omega
      have hpt : put1 (start (buf (runS t))) (j - rdy t.ws) b = ⟨(runS t).s, (runS t).ws, []⟩ := by
        unfold put1
        rw [hz, hst, adv_zero (t := ⟨(runS t).s, (runS t).ws, []⟩) hok.s, Nat.sub_zero]
        show (⟨(runS t).s, kp (runS t).ws (j - rdy t.ws) b, []⟩ : St) = _
        rw [kp_no]
        obtain ⟨c, hc⟩ := hat
        have hjl : j < t.ws.length := (List.getElem?_eq_some_iff.1 hc).1
        have e : (runS t).ws[j - rdy t.ws]? = some (some c) := by
          show (t.ws.drop (rdy t.ws) ++ List.replicate _ none)[j - rdy t.ws]? = _
          rw [List.getElem?_append_left (by rw [List.length_drop]; omega), List.getElem?_drop, show rdy t.ws + (j - rdy t.ws) = j by omega]
          exact hc
        rw [e]
        intro h9
        cases h9
      rw [hpt, run_still (t := ⟨(runS t).s, (runS t).ws, []⟩) hok.h0 hok.s]
      rfl
theorem bods_take_drop (ws : Win) (n : Nat) : (bods (ws.take n)).length + (bods (ws.drop n)).length = (bods ws).length := by
  rw [← List.length_append, ← bods_append, List.take_append_drop]
theorem bods_nones (n : Nat) : bods (List.replicate n none) = [] := by
  induction n with
  | zero => rfl
  | succ n ih => rw [List.replicate_succ]; exact ih
theorem bods_set {ws : Win} {d : Nat} {b : List Int} (h : ws[d]? = some none) : (bods (ws.set d (some b))).length = (bods ws).length + 1 := by
  have hd : d < ws.length := (List.getElem?_eq_some_iff.1 h).1
  have e1 : ws = ws.take d ++ none :: ws.drop (d + 1) := by
    conv => lhs; rw [← List.take_append_drop d ws, List.drop_eq_getElem_cons hd]
    rw [List.getElem?_eq_getElem hd] at h
    rw [Option.some.inj h]
  have e2 : ws.set d (some b) = ws.take d ++ some b :: ws.drop (d + 1) := by rw [List.set_eq_take_append_cons_drop, if_pos hd]
  rw [e2, bods_append]
  conv => rhs; rw [e1, bods_append]
  simp [bods]
  omega
theorem bods_kp (ws : Win) (d : Nat) (b : List Int) : (bods (kp ws d b)).length ≤ (bods ws).length + 1 := by
  by_cases h : ws[d]? = some none
  · rw [kp_yes h, bods_set h]; exact Nat.le_refl _
  · rw [kp_no h]; omega
/-- No more than a window is delivered. -/
theorem recv_few {r : Rob} {n : Int} {b : List Int} (h : vr r = true) : (recv r n b).2.length ≤ 16 := by
  cases hm : (may r n && decide (b.length ≤ 100)) with
  | false => rw [rd_no hm]; simp
  | true =>
    rw [rd_yes hm]
    obtain ⟨d, hd⟩ : ∃ d, (sqd r.Start n).toNat = d := ⟨_, rfl⟩
    rw [hd]
    have h1 := (vr_ok h).1
    have hc : (bods (start r).ws).length ≤ 15 := by
      match hw : (start r).ws, h1.h0, h1.len with
      | o :: q, h0, hl =>
        obtain rfl : o = none := by simpa using h0
        have e : bods (none :: q) = bods q := rfl
        rw [e]
        have h3 := bods_len q
        simp only [List.length_cons] at hl
        omega
    have e1 : (runS (put1 (start r) d b)).out = (bods ((start r).ws.take (d - 15))) ++ bods ((put1 (start r) d b).ws.take (rdy (put1 (start r) d b).ws)) := by
      show (put1 (start r) d b).out ++ _ = _
      rfl
    show (runS (put1 (start r) d b)).out.length ≤ 16
    rw [e1, List.length_append]
    have h2 := bods_take_drop (start r).ws (d - 15)
    have h3 := bods_take_drop (put1 (start r) d b).ws (rdy (put1 (start r) d b).ws)
    have h4 : (bods (put1 (start r) d b).ws).length ≤ (bods ((start r).ws.drop (d - 15))).length + 1 := by
      refine Nat.le_trans (bods_kp _ _ _) ?_
      show (bods ((start r).ws.drop (d - 15) ++ List.replicate _ none)).length + 1 ≤ _
      rw [bods_append, bods_nones, List.append_nil]
      exact Nat.le_refl _
    omega
/-- Beyond the window. -/
theorem mvs_all {r : Rob} (h : vr r = true) : (mvs r ((r.Start + 16) % 4096)).2.length = r.Pending.length ∧ (mvs r ((r.Start + 16) % 4096)).1.Pending = [] ∧ sqd r.Start (mvs r ((r.Start + 16) % 4096)).1.Start = 16 := by
  have h1 := (vr_ok h).1
  have hs := h1.s
  have hd : sqd r.Start ((r.Start + 16) % 4096) = 16 := by rw [bs.sqd_in hs (by omega)]; omega
  have hm : may r ((r.Start + 16) % 4096) = true := by
    unfold may
    rw [h, hd]; rfl
  have e : mvs r ((r.Start + 16) % 4096) = (buf (mvT (start r) 16), (mvT (start r) 16).out) := by
    unfold mvs
    rw [if_pos hm, hd]; rfl
  have hal : (advS (start r) 16).ws = List.replicate 16 none := by
    show (start r).ws.drop 16 ++ List.replicate (min 16 (start r).ws.length) none = _
    rw [h1.len, List.drop_eq_nil_of_le (by rw [h1.len]; exact Nat.le_refl _)]; rfl
  have hst : mvT (start r) 16 = advS (start r) 16 := run_still (by rw [hal]; rfl) (adv_s _ _)
  rw [e, hst]
  refine ⟨?_, ?_, ?_⟩
  · show (bods ((start r).ws.take 16)).length = _
    rw [List.take_of_length_le (by rw [h1.len]; exact Nat.le_refl _), ← pend_bods (start r).ws r.Start, List.length_map, (vr_ok h).2]
  · show pend _ (advS (start r) 16).ws = []
    rw [hal]
    exact pend_none _ _ fun o ho => List.eq_of_mem_replicate ho
  · show sqd r.Start ((r.Start + 16) % 4096) = 16
    exact hd
end Go.Proofs.Ytejjafmppihneaa.ro

/- What is missing in a reorder buffer, as data. Condition: none. -/
namespace Go.Proofs.Ytejjafmppihneaa.ro
open ux (Nf Rob)
open bs (nsq sqd)
set_option linter.unusedVariables false
theorem d_end {s : Int} {ws : Win} (h : ws.all (·.isNone) = true) : miss s ws = [] := by
  match ws, h with
  | [], _ => rfl
  | o :: r, h => rw [miss, if_pos h]
theorem all_pend {s : Int} {ws : Win} : ws.all (·.isNone) = true ↔ pend s ws = [] := by
  constructor
  · intro h
    refine pend_none ws s fun o ho => ?_
    have h1 := List.all_eq_true.1 h o ho
    cases o with
    | none => rfl
    | some b => cases h1
  · intro h
    refine List.all_eq_true.2 fun o ho => ?_
    rw [pend_none_of ws s h o ho]; rfl
/-- Nothing is missing where nothing is pending; else the first that is missing is the start. -/
theorem msn_head {r : Rob} (h : vr r = true) : (r.Pending = [] ∧ msn r = []) ∨ (r.Pending ≠ [] ∧ ∃ l, msn r = r.Start :: l) := by
  have h1 := vr_ok h
  have hs := h1.1.s
  have e : msn r = miss r.Start (start r).ws := by unfold msn; rw [if_pos h]
  rw [e]
  cases ha : (start r).ws.all (·.isNone) with
  | true =>
    refine .inl ⟨?_, d_end ha⟩
    rw [← h1.2]; exact all_pend.1 ha
  | false =>
    refine .inr ⟨fun hp => ?_, ?_⟩
    · rw [← h1.2] at hp
      rw [all_pend.2 hp] at ha; cases ha
    · match hw : (start r).ws, h1.1.h0, ha with
      | o :: q, h0, ha =>
        obtain rfl : o = none := by simpa using h0
        refine ⟨miss (r.Start + 1) q, ?_⟩
        rw [miss, if_neg (by rw [ha]; decide), show r.Start % 4096 = r.Start by omega]
        rfl
theorem mem_miss : ∀ {ws : Win} {s y : Int}, y ∈ miss s ws → ∃ i, i < ws.length ∧ y = (s + (i : Int)) % 4096 ∧ ws[i]? = some none
  | o :: r, s, y, h => by
    rw [miss] at h
    split at h
    · cases h
    · rcases List.mem_append.1 h with h1 | h1
      · cases o with
        | none =>
          have e : y = s % 4096 := by simpa using h1
          exact ⟨0, by simp, by rw [e]; simp, rfl⟩
        | some b => simp at h1
      · obtain ⟨i, g1, g2, g3⟩ := mem_miss h1
        exact ⟨i + 1, by simp; omega, by rw [g2]; congr 1; push_cast; omega, by simpa using g3⟩
theorem bits_of {s : Int} (i : Nat) : ∀ (xs : List Nf) (a : Nat), (xs.foldl (fun a (f : Nf) => a ||| 2 ^ (sqd s f.Seq).toNat) a).testBit i = (a.testBit i || xs.any fun f => decide ((sqd s f.Seq).toNat = i))
  | [], a => by simp
  | f :: r, a => by
    rw [List.foldl_cons, bits_of i r, List.any_cons, Nat.testBit_or, Nat.testBit_two_pow]
    rw [Bool.or_assoc]
/-- A missing number's bit is not set. -/
theorem bm_bit {r : Rob} (h : vr r = true) {i : Nat} (hi : i < 16) (hw : (start r).ws[i]? = some none) : (bm r.Start r.Pending).testBit i = false := by
  have h1 := vr_ok h
  unfold bm
  rw [bits_of, Nat.zero_testBit, Bool.false_or]
  refine List.any_eq_false.2 fun f hf => ?_
  rw [← h1.2] at hf
  obtain ⟨j, g1, g2, g3⟩ := mem_pend hf
  rw [h1.1.len] at g1
  rw [g2, sqd_at h1.1.s (by omega), Int.toNat_natCast]
  intro e
  have e2 : j = i := of_decide_eq_true e
  rw [e2, hw] at g3
  cases g3
theorem msn_bit {r : Rob} (h : vr r = true) {y : Int} (hy : y ∈ msn r) : ∃ i : Nat, i < 16 ∧ sqd r.Start y = (i : Int) ∧ (bm r.Start r.Pending).testBit i = false := by
  have h1 := vr_ok h
  have e : msn r = miss r.Start (start r).ws := by unfold msn; rw [if_pos h]
  rw [e] at hy
  obtain ⟨i, g1, g2, g3⟩ := mem_miss hy
  rw [h1.1.len] at g1
  exact ⟨i, g1, by rw [g2]; exact sqd_at h1.1.s (by omega), bm_bit h g1 g3⟩
end Go.Proofs.Ytejjafmppihneaa.ro

/- ReceiveNumbered of the program. Condition: sizes up to 2^26. -/
namespace Go.Proofs.Ytejjafmppihneaa.ro
open Go.RowKit sl harn bx stw
set_option linter.unusedVariables false
open ux (Nf Rob RR OO row rowB rowNf nf rob)
open mrw (blkOf)
open bs (nsq sqd)
set_option linter.unusedSimpArgs false

set_option maxRecDepth 100000 in
set_option maxHeartbeats 4000000 in
theorem implRc (s : Int) (xs : List Nf) (lo hi : Nat) (A : Option Addr) (n c : Nat) (m : Int) (zb : List Int) (lo2 hi2 : Nat) (Ab : Option Addr) (nb cb : Nat) (w : World) (h : RR rowNf w lo hi (.slice A n c) xs) (hn : n ≤ 67108864) (hbd : ∀ x ∈ xs, x.Body.length ≤ 67108864) (hb : RR ux.bytes w lo2 hi2 (.slice Ab nb cb) zb) :
    Calls Try.prog 38 #[.agg #[.int .i64 s, .slice A n c], .int .i64 m, .slice Ab nb cb] w (R2Post (recv ⟨s, xs⟩ m zb) w) := by
  have RW := Lib.hid h
  obtain ⟨hlR, hncR, hcmR⟩ := nf_len h
  have HL := Lib.hid hlR
  have LHR := Lib.hid (show hi ≤ w.heap.size from h.hi_)
  clear hlR h
  have HN := Lib.hid hn
  have HBD := Lib.hid hbd
  clear hn hbd
  have QW := Lib.hid hb
  have LHC := Lib.hid (show hi2 ≤ w.heap.size from hb.hi_)
  have HNB := Lib.hid (ux.rd_of hb).len
  have hcb := (ux.rd_of hb).cap_
  clear hb
  have HWF := Lib.hid (rr_wf RW.out)
  go_enter Try.func38, Try.ntmps38
  go_upto_region 1 with fail
  obtain ⟨w0, hW⟩ : ∃ w0, (w.alloc (.cells #[.int .i64 s, .slice A n c] 50)).alloc (.cells #[.int .i64 0, .slice none 0 0] 50) = w0 := ⟨_, rfl⟩
  rw [hW]
  have B0 := Lib.hid (show Below w.heap.size w w0 by rw [← hW]; exact ((Below.refl _ _).alloc (by simp <;> omega) _).alloc (by simp <;> omega) _)
  have X0 := Lib.hid (show Bx 50 w0 (w.heap.size) #[.int .i64 s, .slice A n c] by
      rw [← hW]
      have hh := Bx.made 50 w #[.int .i64 s, .slice A n c]
      exact (hh.below (below_box _ _)))
  have Z0 := Lib.hid (show Bx 50 w0 (w.heap.size + 1) #[.int .i64 0, .slice none 0 0] by
      rw [← hW]
      have hh : Bx 50 ((w.alloc (.cells #[.int .i64 s, .slice A n c] 50)).alloc (.cells #[.int .i64 0, .slice none 0 0] 50)) (w.heap.size + 1) #[.int .i64 0, .slice none 0 0] := by have hh := Bx.made 50 (w.alloc (.cells #[.int .i64 s, .slice A n c] 50)) #[.int .i64 0, .slice none 0 0]; simpa using hh
      exact hh)
  have R0 := Lib.hid (show RR rowNf w0 lo hi (.slice A n c) xs by rw [← hW]; exact ((RW.out.below (below_box _ _)).below (below_box _ _)))
  have Q0 := Lib.hid (show RR ux.bytes w0 lo2 hi2 (.slice Ab nb cb) zb by rw [← hW]; exact ((QW.out.below (below_box _ _)).below (below_box _ _)))
  clear hW
  have LTX := Lib.hid X0.out.lt
  have LTZ := Lib.hid Z0.out.lt
  have cX0 : w0.cell? ⟨w.heap.size, 0, none⟩ = some (.int .i64 s) := X0.out.cell 0
  have cX1 : w0.cell? ⟨w.heap.size, 1, none⟩ = some (.slice A n c) := X0.out.cell 1
  go_wp2_with fail
  clear cX0 cX1
  (with_reducible refine (bs.implSd s m _).mono ?_)
  rintro e wq ⟨rfl, rfl⟩
  obtain ⟨d, hd⟩ : ∃ v, sqd s m = v := ⟨_, rfl⟩
  have HD := Lib.hid hd
  clear hd
  rw [HD.out]
  obtain ⟨v, hv⟩ : ∃ v, vr ⟨s, xs⟩ = v := ⟨_, rfl⟩
  have HV := Lib.hid hv
  clear hv
  obtain ⟨v2, hv2⟩ : ∃ v, decide (0 ≤ d ∧ d ≤ 2047) = v := ⟨_, rfl⟩
  have HV2 := Lib.hid hv2
  clear hv2
  have cX0 : w0.cell? ⟨w.heap.size, 0, none⟩ = some (.int .i64 s) := X0.out.cell 0
  have cX1 : w0.cell? ⟨w.heap.size, 1, none⟩ = some (.slice A n c) := X0.out.cell 1
  go_wp2_with (refine stw.list_load rfl 50 _ rfl (w.heap.size) rfl 50 _ X0.out Try.underlying50 rfl ux.szRob ?_)
  clear cX0 cX1
  (with_reducible refine (implVr s xs lo hi A n c _ R0.out).mono ?_)
  rintro e w1 hp
  obtain ⟨rfl, hb⟩ := b_parts HV.out hp
  clear hp
  have SS1 := Lib.hid hb.size
  have B1 := Lib.hid (B0.out.trans (hb.mono B0.out.size))
  have X1 := Lib.hid (X0.out.below hb)
  have Z1 := Lib.hid (Z0.out.below hb)
  have R1 := Lib.hid (R0.out.below hb)
  have Q1 := Lib.hid (Q0.out.below hb)
  clear hb  B0 X0 Z0 R0 Q0
  obtain ⟨v3, hv3⟩ : ∃ v, decide (nb ≤ 100) = v := ⟨_, rfl⟩
  have HV3 := Lib.hid hv3
  clear hv3
  obtain ⟨r2, hr2⟩ : ∃ v, recv ⟨s, xs⟩ m zb = v := ⟨_, rfl⟩
  have HR2 := Lib.hid hr2
  clear hr2
  rw [HR2.out]
  cases v with
  | true =>
    go_wp2_with fail
    (with_reducible refine (ahead d v2 _ HV2.out).mono ?_)
    rintro e wq ⟨rfl, rfl⟩
    cases v2 with
    | true =>
      go_wp2_with fail
      (with_reducible refine (fits Ab nb cb v3 _ HV3.out).mono ?_)
      rintro e wq ⟨rfl, rfl⟩
      cases v3 with
      | true =>
        have hd9 := of_decide_eq_true HV2.out
        obtain ⟨k, rfl⟩ : ∃ k : Nat, d = k := ⟨d.toNat, by omega⟩
        have HK2 := Lib.hid (show k ≤ 2047 by omega)
        obtain ⟨p, hp⟩ : ∃ p, k - 15 = p := ⟨_, rfl⟩
        obtain ⟨j, hj⟩ : ∃ j, k - p = j := ⟨_, rfl⟩
        have HMX := Lib.hid (show (p : Int) = if (0 : Int) < (k : Int) - 15 then (k : Int) - 15 else 0 by split <;> omega)
        have HPJ := Lib.hid (show p ≤ k ∧ j ≤ 15 ∧ k - p = j ∧ k - 15 = p by omega)
        have hjI : (k : Int) - (p : Int) = (j : Int) := by omega
        have HCW := Lib.hid (show Wf .u8 zb ∧ zb.length ≤ 100 from ⟨(ux.rd_of Q1.out).wf, by rw [HNB.out]; exact of_decide_eq_true HV3.out⟩)
        clear hp hj
        have HJI := Lib.hid hjI
        clear hjI
        have HVV := Lib.hid (show vr ⟨s, xs⟩ = true from HV.out)
        have cX0 : w1.cell? ⟨w.heap.size, 0, none⟩ = some (.int .i64 s) := X1.out.cell 0
        have cX1 : w1.cell? ⟨w.heap.size, 1, none⟩ = some (.slice A n c) := X1.out.cell 1
        go_wp2_with (refine stw.list_load rfl 50 _ rfl (w.heap.size) rfl 50 _ X1.out Try.underlying50 rfl ux.szRob ?_)
        clear cX0 cX1
        obtain ⟨L0, hL0⟩ : ∃ m, w1.heap.size = m := ⟨_, rfl⟩
        have HL0 := Lib.hid (show w.heap.size + 1 < L0 by have h1 := Z1.out.lt; omega)
        (with_reducible refine (implRo s xs lo hi A n c _ R1.out HVV.out).mono ?_)
        rintro e w2 hp
        obtain ⟨be, rfl, hE, hbe, hb⟩ := rg_parts hp
        clear hp
        have HBE := Lib.hid (show L0 ≤ be ∧ be < w2.heap.size from ⟨by omega, hE.lt⟩)
        have HLN := Lib.hid (show L0 ≤ w2.heap.size by have h1 := hE.lt; omega)
        clear hbe hL0
        have SS2 := Lib.hid hb.size
        have B2 := Lib.hid (B1.out.trans (hb.mono B1.out.size))
        have X2 := Lib.hid (X1.out.below hb)
        have Z2 := Lib.hid (Z1.out.below hb)
        have R2 := Lib.hid (R1.out.below hb)
        have Q2 := Lib.hid (Q1.out.below hb)
        clear hb B1 X1 Z1 R1 Q1
        have E2 := Lib.hid hE
        clear hE
        obtain ⟨hok, hpe⟩ := vr_ok HVV.out
        have HOKW := Lib.hid hok
        have HPE := Lib.hid hpe
        clear hok hpe
        have hX0 : Bx 84 (w2.alloc (.cells vcs0 84)) w2.heap.size vcs0 := Bx.made _ _ _
        have hS0 : vcs0.size = (vcs (start ⟨s, xs⟩) (.slice (some ⟨be, 0, none⟩) 0 0)).size := (vcs_size none16_len).trans (vcs_size HOKW.out.len).symm
        have hS1 := szRv (t := start ⟨s, xs⟩) (hd := .slice (some ⟨be, 0, none⟩) 0 0) HOKW.out.len
        have hO1 := vcs_one (start ⟨s, xs⟩) (some ⟨be, 0, none⟩) 0 0
        go_upto_region 5 with (refine stw.list_store rfl 84 _ _ rfl (w2.heap.size) (vcs (start ⟨s, xs⟩) (.slice (some ⟨be, 0, none⟩) 0 0)) rfl rfl 84 _ hX0 hS0 hS1 hO1 ?_; intro wz hz)
        have hb := hz.on ((Below.refl w2.heap.size w2).alloc (Nat.le_refl _) (.cells vcs0 84)) (Nat.le_refl _)
        have hE := hz.keep (E2.out.below (bx.below_box _ _)) (by have := HBE.out; omega)
        have hV := hz.box
        clear hz hX0 hS0 hS1 hO1
        obtain ⟨w3, hwz⟩ : ∃ w5, wz = w5 := ⟨_, rfl⟩
        rw [hwz] at hb hE hV ⊢
        clear hwz
        have hr := Rv.start_ (t := start ⟨s, xs⟩) hE hV (by have := HBE.out; omega) rfl HOKW.out.len HOKW.out.s (fun x hx => ⟨start_wf HWF.out x hx, HOKW.out.b x hx⟩)
        clear hE hV
        obtain ⟨b9, hb9⟩ : ∃ b, w2.heap.size = b := ⟨_, rfl⟩
        have HB9 := Lib.hid (show L0 ≤ b9 by have := HLN.out; omega)
        rw [hb9] at hr
        (try rw [hb9])
        clear hb9
        have HOL := Lib.hid (show (start ⟨s, xs⟩).out.length ≤ 1000000 from Nat.zero_le _)
        clear E2
        have SS3 := Lib.hid hb.size
        have B3 := Lib.hid (B2.out.trans (hb.mono B2.out.size))
        have X3 := Lib.hid (X2.out.below hb)
        have Z3 := Lib.hid (Z2.out.below hb)
        have R3 := Lib.hid (R2.out.below hb)
        have Q3 := Lib.hid (Q2.out.below hb)
        clear hb B2 X2 Z2 R2 Q2
        have RV3 := Lib.hid hr
        have HFP3 := Lib.hid (show ∀ q, q ∈ [be] → L0 ≤ q from fun q hq => by have := List.mem_singleton.1 hq; have := HBE.out; omega)
        clear hr
        go_wp2_with fail
        (with_reducible refine (rng.implMax 0 ((k : Int) - 15) (p : Int) HMX.out _).mono ?_)
        rintro e w4 ⟨rfl, hb⟩
        have RV4 := Lib.hid (RV3.out.below hb)
        have HFP4 := HFP3
        clear RV3 HFP3
        have SS4 := Lib.hid hb.size
        have B4 := Lib.hid (B3.out.trans (hb.mono B3.out.size))
        have Z4 := Lib.hid (Z3.out.below hb)
        have Q4 := Lib.hid (Q3.out.below hb)
        clear hb B3 Z3 Q3
        go_wp2_with fail
        (with_reducible refine (advance (start ⟨s, xs⟩) p b9 [be] _ RV4.out (by have := HK2.out; have := HPJ.out; omega) HOL.out).mono ?_)
        rintro e w5 hp
        obtain ⟨rfl, f6, hr, hf, hk⟩ := av_parts hp
        clear hp
        have SS5 := Lib.hid hk.size
        have B5 := Lib.hid (B4.out.trans (ux.ks_bel hk (fun b hb => by rcases List.mem_cons.1 hb with h9 | h9; (have hs0 := LTX.out; have hs1 := LTZ.out; have hs2 := LHR.out; have hs3 := LHC.out; have hs4 := SS1.out; have hs5 := SS2.out; have hs6 := SS3.out; have hs7 := HL0.out; have hs8 := HB9.out; have hs9 := HLN.out; have hs10 := SS4.out; omega); (have h8 := HFP4.out _ h9; have hs0 := LTX.out; have hs1 := LTZ.out; have hs2 := LHR.out; have hs3 := LHC.out; have hs4 := SS1.out; have hs5 := SS2.out; have hs6 := SS3.out; have hs7 := HL0.out; have hs8 := HB9.out; have hs9 := HLN.out; have hs10 := SS4.out; omega)) B4.out.size))
        have Z5 := Lib.hid (ux.bx_ks Z4.out hk (fun hm => by rcases List.mem_cons.1 hm with h9 | h9; (have hs0 := LTX.out; have hs1 := LTZ.out; have hs2 := LHR.out; have hs3 := LHC.out; have hs4 := SS1.out; have hs5 := SS2.out; have hs6 := SS3.out; have hs7 := HL0.out; have hs8 := HB9.out; have hs9 := HLN.out; have hs10 := SS4.out; omega); (have h8 := HFP4.out _ h9; have hs0 := LTX.out; have hs1 := LTZ.out; have hs2 := LHR.out; have hs3 := LHC.out; have hs4 := SS1.out; have hs5 := SS2.out; have hs6 := SS3.out; have hs7 := HL0.out; have hs8 := HB9.out; have hs9 := HLN.out; have hs10 := SS4.out; omega)))
        have Q5 := Lib.hid (Q4.out.ks hk (fun b h1 h2 h3 => by rcases List.mem_cons.1 h3 with h9 | h9; (have hs0 := LTX.out; have hs1 := LTZ.out; have hs2 := LHR.out; have hs3 := LHC.out; have hs4 := SS1.out; have hs5 := SS2.out; have hs6 := SS3.out; have hs7 := HL0.out; have hs8 := HB9.out; have hs9 := HLN.out; have hs10 := SS4.out; omega); (have h8 := HFP4.out _ h9; have hs0 := LTX.out; have hs1 := LTZ.out; have hs2 := LHR.out; have hs3 := LHC.out; have hs4 := SS1.out; have hs5 := SS2.out; have hs6 := SS3.out; have hs7 := HL0.out; have hs8 := HB9.out; have hs9 := HLN.out; have hs10 := SS4.out; omega)))
        have HFP5 := Lib.hid (show ∀ q, q ∈ f6 → L0 ≤ q from fun q hq => by rcases hf q hq with h9 | h9; exact HFP4.out q h9; (have hs0 := LTX.out; have hs1 := LTZ.out; have hs2 := LHR.out; have hs3 := LHC.out; have hs4 := SS1.out; have hs5 := SS2.out; have hs6 := SS3.out; have hs7 := HL0.out; have hs8 := HB9.out; have hs9 := HLN.out; have hs10 := SS4.out; omega))
        have RV5 := Lib.hid hr
        clear hr hf hk RV4 HFP4 B4 Z4 Q4
        have HOL2 := Lib.hid (show (advS (start ⟨s, xs⟩) p).out.length ≤ 900000 by have h1 := adv_out (start ⟨s, xs⟩) p; have h2 := HOKW.out.len; have h3 : (start ⟨s, xs⟩).out.length = 0 := rfl; omega)
        have hpk := HPJ.out
        have hjI := HJI.out
        go_wp2_with fail
        (try rw [hjI])
        clear hjI
        obtain ⟨A5, n5, c5, hX5, hO5, hbf5, hl5, hs5, hw5⟩ := RV5.out
        have HO5 := Lib.hid hO5
        have HBF5 := Lib.hid hbf5
        have HL5 := Lib.hid hl5
        have HS5 := Lib.hid hs5
        have HW5 := Lib.hid hw5
        have HK5 := Lib.hid (keep ((advS (start ⟨s, xs⟩) p)) (.slice A5 n5 c5) j zb lo2 hi2 Ab nb cb b9 w5 hX5 hl5 (by omega) (ux.rd_of Q5.out))
        clear hX5 hO5 hbf5 hl5 hs5 hw5
        (with_reducible refine HK5.out.mono ?_)
        rintro e w6 ⟨rfl, hX, hk9⟩
        have hr : Rv w6 b9 f6 ((⟨(advS (start ⟨s, xs⟩) p).s, kp (advS (start ⟨s, xs⟩) p).ws j zb, (advS (start ⟨s, xs⟩) p).out⟩ : St)) := ⟨A5, n5, c5, hX, (HO5.out.ks hk9 (fun q h1 h2 => HBF5.out (by rw [← List.mem_singleton.1 h2]; exact h1))).wide (Nat.le_refl _), HBF5.out, (kp_len _ _ _).trans HL5.out, HS5.out, fun x hx => by rcases kp_mem hx with h7 | h7; exact HW5.out x h7; rw [h7]; exact HCW.out⟩
        have hf : ∀ q, q ∈ f6 → q ∈ f6 ∨ w5.heap.size ≤ q := fun q hq => .inl hq
        have hk : KS (b9 :: f6) w5 w6 := ux.ks_more hk9 fun q hq => by rw [List.mem_singleton.1 hq]; exact List.mem_cons_self
        clear hk9 hX
        have SS6 := Lib.hid hk.size
        have B6 := Lib.hid (B5.out.trans (ux.ks_bel hk (fun b hb => by rcases List.mem_cons.1 hb with h9 | h9; (have hs0 := LTX.out; have hs1 := LTZ.out; have hs2 := LHR.out; have hs3 := LHC.out; have hs4 := SS1.out; have hs5 := SS2.out; have hs6 := SS3.out; have hs7 := HL0.out; have hs8 := HB9.out; have hs9 := HLN.out; have hs10 := SS4.out; have hs11 := SS5.out; omega); (have h8 := HFP5.out _ h9; have hs0 := LTX.out; have hs1 := LTZ.out; have hs2 := LHR.out; have hs3 := LHC.out; have hs4 := SS1.out; have hs5 := SS2.out; have hs6 := SS3.out; have hs7 := HL0.out; have hs8 := HB9.out; have hs9 := HLN.out; have hs10 := SS4.out; have hs11 := SS5.out; omega)) B5.out.size))
        have Z6 := Lib.hid (ux.bx_ks Z5.out hk (fun hm => by rcases List.mem_cons.1 hm with h9 | h9; (have hs0 := LTX.out; have hs1 := LTZ.out; have hs2 := LHR.out; have hs3 := LHC.out; have hs4 := SS1.out; have hs5 := SS2.out; have hs6 := SS3.out; have hs7 := HL0.out; have hs8 := HB9.out; have hs9 := HLN.out; have hs10 := SS4.out; have hs11 := SS5.out; omega); (have h8 := HFP5.out _ h9; have hs0 := LTX.out; have hs1 := LTZ.out; have hs2 := LHR.out; have hs3 := LHC.out; have hs4 := SS1.out; have hs5 := SS2.out; have hs6 := SS3.out; have hs7 := HL0.out; have hs8 := HB9.out; have hs9 := HLN.out; have hs10 := SS4.out; have hs11 := SS5.out; omega)))
        have Q6 := Lib.hid (Q5.out.ks hk (fun b h1 h2 h3 => by rcases List.mem_cons.1 h3 with h9 | h9; (have hs0 := LTX.out; have hs1 := LTZ.out; have hs2 := LHR.out; have hs3 := LHC.out; have hs4 := SS1.out; have hs5 := SS2.out; have hs6 := SS3.out; have hs7 := HL0.out; have hs8 := HB9.out; have hs9 := HLN.out; have hs10 := SS4.out; have hs11 := SS5.out; omega); (have h8 := HFP5.out _ h9; have hs0 := LTX.out; have hs1 := LTZ.out; have hs2 := LHR.out; have hs3 := LHC.out; have hs4 := SS1.out; have hs5 := SS2.out; have hs6 := SS3.out; have hs7 := HL0.out; have hs8 := HB9.out; have hs9 := HLN.out; have hs10 := SS4.out; have hs11 := SS5.out; omega)))
        have HFP6 := Lib.hid (show ∀ q, q ∈ f6 → L0 ≤ q from fun q hq => by rcases hf q hq with h9 | h9; exact HFP5.out q h9; (have hs0 := LTX.out; have hs1 := LTZ.out; have hs2 := LHR.out; have hs3 := LHC.out; have hs4 := SS1.out; have hs5 := SS2.out; have hs6 := SS3.out; have hs7 := HL0.out; have hs8 := HB9.out; have hs9 := HLN.out; have hs10 := SS4.out; have hs11 := SS5.out; omega))
        have RV6 := Lib.hid hr
        clear hr hf hk RV5 HFP5 B5 Z5 Q5
        go_wp2_with fail
        (with_reducible refine (ready (⟨(advS (start ⟨s, xs⟩) p).s, kp (advS (start ⟨s, xs⟩) p).ws j zb, (advS (start ⟨s, xs⟩) p).out⟩ : St) b9 f6 _ RV6.out HOL2.out).mono ?_)
        rintro e w7 hp
        obtain ⟨rfl, f8, hr, hf, hk⟩ := av_parts hp
        clear hp
        have SS7 := Lib.hid hk.size
        have B7 := Lib.hid (B6.out.trans (ux.ks_bel hk (fun b hb => by rcases List.mem_cons.1 hb with h9 | h9; (have hs0 := LTX.out; have hs1 := LTZ.out; have hs2 := LHR.out; have hs3 := LHC.out; have hs4 := SS1.out; have hs5 := SS2.out; have hs6 := SS3.out; have hs7 := HL0.out; have hs8 := HB9.out; have hs9 := HLN.out; have hs10 := SS4.out; have hs11 := SS5.out; have hs12 := SS6.out; omega); (have h8 := HFP6.out _ h9; have hs0 := LTX.out; have hs1 := LTZ.out; have hs2 := LHR.out; have hs3 := LHC.out; have hs4 := SS1.out; have hs5 := SS2.out; have hs6 := SS3.out; have hs7 := HL0.out; have hs8 := HB9.out; have hs9 := HLN.out; have hs10 := SS4.out; have hs11 := SS5.out; have hs12 := SS6.out; omega)) B6.out.size))
        have Z7 := Lib.hid (ux.bx_ks Z6.out hk (fun hm => by rcases List.mem_cons.1 hm with h9 | h9; (have hs0 := LTX.out; have hs1 := LTZ.out; have hs2 := LHR.out; have hs3 := LHC.out; have hs4 := SS1.out; have hs5 := SS2.out; have hs6 := SS3.out; have hs7 := HL0.out; have hs8 := HB9.out; have hs9 := HLN.out; have hs10 := SS4.out; have hs11 := SS5.out; have hs12 := SS6.out; omega); (have h8 := HFP6.out _ h9; have hs0 := LTX.out; have hs1 := LTZ.out; have hs2 := LHR.out; have hs3 := LHC.out; have hs4 := SS1.out; have hs5 := SS2.out; have hs6 := SS3.out; have hs7 := HL0.out; have hs8 := HB9.out; have hs9 := HLN.out; have hs10 := SS4.out; have hs11 := SS5.out; have hs12 := SS6.out; omega)))
        have Q7 := Lib.hid (Q6.out.ks hk (fun b h1 h2 h3 => by rcases List.mem_cons.1 h3 with h9 | h9; (have hs0 := LTX.out; have hs1 := LTZ.out; have hs2 := LHR.out; have hs3 := LHC.out; have hs4 := SS1.out; have hs5 := SS2.out; have hs6 := SS3.out; have hs7 := HL0.out; have hs8 := HB9.out; have hs9 := HLN.out; have hs10 := SS4.out; have hs11 := SS5.out; have hs12 := SS6.out; omega); (have h8 := HFP6.out _ h9; have hs0 := LTX.out; have hs1 := LTZ.out; have hs2 := LHR.out; have hs3 := LHC.out; have hs4 := SS1.out; have hs5 := SS2.out; have hs6 := SS3.out; have hs7 := HL0.out; have hs8 := HB9.out; have hs9 := HLN.out; have hs10 := SS4.out; have hs11 := SS5.out; have hs12 := SS6.out; omega)))
        have HFP7 := Lib.hid (show ∀ q, q ∈ f8 → L0 ≤ q from fun q hq => by rcases hf q hq with h9 | h9; exact HFP6.out q h9; (have hs0 := LTX.out; have hs1 := LTZ.out; have hs2 := LHR.out; have hs3 := LHC.out; have hs4 := SS1.out; have hs5 := SS2.out; have hs6 := SS3.out; have hs7 := HL0.out; have hs8 := HB9.out; have hs9 := HLN.out; have hs10 := SS4.out; have hs11 := SS5.out; have hs12 := SS6.out; omega))
        have RV7 := Lib.hid hr
        clear hr hf hk RV6 HFP6 B6 Z6 Q6
        go_upto_region 9 with fail
        have HE := Lib.hid (show r2 = (buf (runS (⟨(advS (start ⟨s, xs⟩) p).s, kp (advS (start ⟨s, xs⟩) p).ws j zb, (advS (start ⟨s, xs⟩) p).out⟩ : St)), (runS (⟨(advS (start ⟨s, xs⟩) p).s, kp (advS (start ⟨s, xs⟩) p).ws j zb, (advS (start ⟨s, xs⟩) p).out⟩ : St)).out) by rw [← HR2.out, recv_yes (by unfold may; rw [HV.out, HD.out, HV2.out, HNB.out, HV3.out]; rfl) HD.out]; unfold rcvT; rw [HPJ.out.2.2.2, HPJ.out.2.2.1])
        obtain ⟨A5, n5, c5, hX5, hO5, hbf5, hlen5⟩ := RV7.out
        have HX5 := Lib.hid hX5
        have HO5 := Lib.hid hO5
        have HBF5 := Lib.hid hbf5
        have HT5 := Lib.hid hlen5
        have HLB5 := Lib.hid hX5.lt
        clear hX5 hO5 hbf5 hlen5
        have HZW := Lib.hid (show w.heap.size + 1 < w7.heap.size from Z7.out.lt)
        obtain ⟨r5, hr5⟩ : ∃ r, buf ((runS (⟨(advS (start ⟨s, xs⟩) p).s, kp (advS (start ⟨s, xs⟩) p).ws j zb, (advS (start ⟨s, xs⟩) p).out⟩ : St))) = r := ⟨_, rfl⟩
        have HR5 := Lib.hid hr5
        clear hr5
        refine reg.region_free (rgp.EA 4 reg.Bel (E7 (w.heap.size + 1))) 48 [(4, 45)] [some [], some [(0, 44)], some [], some [(2, 46)], some [(1, 45)], some [(3, 47)]] [(0, 44), (1, 45), (2, 46), (3, 47), (5, 7)]
          (C7 w7 (w.heap.size + 1))
          (rgp.RA 4 [rgp.is (.agg (vcs ((runS (⟨(advS (start ⟨s, xs⟩) p).s, kp (advS (start ⟨s, xs⟩) p).ws j zb, (advS (start ⟨s, xs⟩) p).out⟩ : St))) (.slice A5 n5 c5))), bufv w7 (w.heap.size + 1) r5 HZW.out, rgp.is (.pointer (some ⟨b9, 33, none⟩)), rgp.is (.slice A5 n5 c5), rgp.val fun _ => True, rgp.is (.slice A5 n5 c5)] (stv (w.heap.size + 1)))
          (by kernel_rfl) (by kernel_rfl) rfl
          (c7_keep 4 w7 _)
          (rgp.ra_keep (stv_keep _)) ⟨⟨rfl, rfl, rfl, Nat.le_refl _, fun _ _ _ => rfl⟩, ⟨_, rfl, Z7.out.same rfl⟩⟩ (by kernel_rfl) ⟨?_, ?_, ?_, ?_, ?_, ?_, trivial⟩ ?_
        · refine fun w8 hc K hK => ?_
          (try simp only [Act.put, List.setIfInBounds_toArray, List.set_cons_zero, List.set_cons_succ])
          rw [if_pos (by rfl)]
          refine stw.wp_load_bx 84 _ rfl b9 rfl 84 _ (show Bx 84 w8 b9 _ from ux.bx_ks HX5.out hc.1 (fun hm => by have h9 := List.mem_singleton.1 hm; have hs0 := LTX.out; have hs1 := LTZ.out; have hs2 := LHR.out; have hs3 := LHC.out; have hs4 := SS1.out; have hs5 := SS2.out; have hs6 := SS3.out; have hs7 := HL0.out; have hs8 := HB9.out; have hs9 := HLN.out; have hs10 := SS4.out; have hs11 := SS5.out; have hs12 := SS6.out; have hs13 := SS7.out; omega)) Try.underlying84 rfl (szRv HT5.out.1) ?_
          exact hK _ _ (rgp.ra1 rfl rfl) (rgp.ea1 rfl (Below.refl _ _))
        · refine fun w8 hc v0 h0 K hK => ?_
          have h0 := rgp.ra1_out rfl h0
          obtain rfl : v0 = .agg (vcs ((runS (⟨(advS (start ⟨s, xs⟩) p).s, kp (advS (start ⟨s, xs⟩) p).ws j zb, (advS (start ⟨s, xs⟩) p).out⟩ : St))) (.slice A5 n5 c5)) := h0
          (try simp only [Act.put, List.setIfInBounds_toArray, List.set_cons_zero, List.set_cons_succ])
          have hcp8 := implBuf ((runS (⟨(advS (start ⟨s, xs⟩) p).s, kp (advS (start ⟨s, xs⟩) p).ws j zb, (advS (start ⟨s, xs⟩) p).out⟩ : St))) (.slice A5 n5 c5) w8 HT5.out.1 HT5.out.2.1 HT5.out.2.2
          rw [HR5.out] at hcp8
          go_simp
          (with_reducible refine hcp8.mono ?_)
          rintro e w3 hp
          obtain ⟨A7, n7, c7, f7, rfl, ho7, hb7⟩ := ro_parts hp
          exact hK _ _ (rgp.ra1 rfl ⟨A7, n7, c7, f7, _, rfl, oo_narrow ho7 (fun q hq => by have h9 := (ho7.inn q hq).1; have h8 := hc.1.size; omega)⟩) (rgp.ea1 rfl hb7)
        · refine fun w8 hc K hK => ?_
          (try simp only [Act.put, List.setIfInBounds_toArray, List.set_cons_zero, List.set_cons_succ])
          go_simp
          exact hK (.pointer (some ⟨b9, 33, none⟩)) _ (rgp.ra1 rfl rfl) (rgp.ea1 rfl (Below.refl _ _))
        · refine fun w8 hc v2 h2 K hK => ?_
          have h2 := rgp.ra1_out rfl h2
          obtain rfl : v2 = .pointer (some ⟨b9, 33, none⟩) := h2
          (try simp only [Act.put, List.setIfInBounds_toArray, List.set_cons_zero, List.set_cons_succ])
          have c0 : w8.cell? ⟨b9, 33, none⟩ = some (.slice A5 n5 c5) := (Bx.cell (show Bx 84 w8 b9 _ from ux.bx_ks HX5.out hc.1 (fun hm => by have h9 := List.mem_singleton.1 hm; have hs0 := LTX.out; have hs1 := LTZ.out; have hs2 := LHR.out; have hs3 := LHC.out; have hs4 := SS1.out; have hs5 := SS2.out; have hs6 := SS3.out; have hs7 := HL0.out; have hs8 := HB9.out; have hs9 := HLN.out; have hs10 := SS4.out; have hs11 := SS5.out; have hs12 := SS6.out; have hs13 := SS7.out; omega)) 33).trans (vcs_hd HT5.out.1)
          go_simp
          exact hK (.slice A5 n5 c5) _ (rgp.ra1 rfl rfl) (rgp.ea1 rfl (Below.refl _ _))
        · refine fun w8 hc v1 h1 K hK => ?_
          have h1 := rgp.ra1_out rfl h1
          obtain ⟨A7, n7, c7, f7, hi7, rfl, ho7⟩ := h1
          (try simp only [Act.put, List.setIfInBounds_toArray, List.set_cons_zero, List.set_cons_succ])
          obtain ⟨cur, hcur, hXc⟩ := hc.2
          refine stw.step_store rfl 50 _ _ rfl (w.heap.size + 1) #[.int .i64 r5.Start, .slice A7 n7 c7] rfl rfl 50 _ hXc (by rw [hcur]; rfl) ux.szRob (ux.oneRob _ _ _ _) ?_
          intro wz hz
          exact hK undef _ (rgp.ra2 ⟨_, rfl, hz.box⟩) (rgp.ea2 ⟨⟨hz.below.os, hz.below.tape, hz.below.output, hz.below.size, fun q _ hq => hz.other q (fun e => hq (by rw [e]; exact List.mem_singleton.2 rfl))⟩, ⟨_, rfl, hz.box⟩⟩)
        · refine fun w8 hc v3 h3 K hK => ?_
          have h3 := rgp.ra1_out rfl h3
          obtain rfl : v3 = .slice A5 n5 c5 := h3
          (try simp only [Act.put, List.setIfInBounds_toArray, List.set_cons_zero, List.set_cons_succ])
          go_simp
          exact hK (.slice A5 n5 c5) _ (rgp.ra1 rfl rfl) (rgp.ea1 rfl (Below.refl _ _))
        refine fun w9 hc v0 h0 v1 h1 v2 h2 v3 h3 v5 h5 => ?_
        have h0 := rgp.ra1_out rfl h0
        obtain rfl : v0 = .agg (vcs ((runS (⟨(advS (start ⟨s, xs⟩) p).s, kp (advS (start ⟨s, xs⟩) p).ws j zb, (advS (start ⟨s, xs⟩) p).out⟩ : St))) (.slice A5 n5 c5)) := h0
        have h2 := rgp.ra1_out rfl h2
        obtain rfl : v2 = .pointer (some ⟨b9, 33, none⟩) := h2
        have h3 := rgp.ra1_out rfl h3
        obtain rfl : v3 = .slice A5 n5 c5 := h3
        have h5 := rgp.ra1_out rfl h5
        obtain rfl : v5 = .slice A5 n5 c5 := h5
        (try simp only [reg.Obs])
        intro hrf
        have h1 := rgp.ra1_out rfl h1
        obtain ⟨A7, n7, c7, f7, hi7, rfl, ho7⟩ := h1
        have hg := rgp.ra2_out (hrf (4, 45) (by simp) rfl)
        clear hrf
        obtain ⟨cs7, he7, hZ7⟩ := hg
        have he7 : cs7 = #[.int .i64 r5.Start, .slice A7 n7 c7] := (Value.agg.inj he7).symm
        subst he7
        (try simp only [Act.put, List.setIfInBounds_toArray, List.set_cons_zero, List.set_cons_succ])
        have HB := Lib.hid (B7.out.trans (ux.ks_bel hc.1 (fun q hq => by have h9 := List.mem_singleton.1 hq; omega) B7.out.size))
        have HOD := Lib.hid (HO5.out.ks hc.1 (fun q h1 h2 => by have h9 := List.mem_singleton.1 h2; have h8 := HFP7.out _ h1; have hs0 := LTX.out; have hs1 := LTZ.out; have hs2 := LHR.out; have hs3 := LHC.out; have hs4 := SS1.out; have hs5 := SS2.out; have hs6 := SS3.out; have hs7 := HL0.out; have hs8 := HB9.out; have hs9 := HLN.out; have hs10 := SS4.out; have hs11 := SS5.out; have hs12 := SS6.out; have hs13 := SS7.out; omega))
        have HO7 := Lib.hid ho7
        have HZ7 := Lib.hid hZ7
        have HSZ9 := Lib.hid hc.1.size
        clear hc ho7 hZ7
        go_wp2_with fail
        (try simp only [Exit.inBlock, Exit.then])
        refine bodyPost_ret (v := .tuple #[.agg #[.int .i64 r5.Start, .slice A7 n7 c7], .slice A5 n5 c5]) ?_ rfl ?_
        · rw [results_cell_tmp1 rfl]
          exact stw.back2 HZ7.out Try.underlying50 rfl ux.szRob _
        · (first | rw [HE.out] | rw [HR2.out, HE.out]); rw [HR5.out]; exact ⟨_, _, _, _, _, _, _, _, rfl, HO7.out.wide (by have h1 := B7.out.size; omega), oo_narrow (HOD.out.wide (Nat.le_refl _)) (fun q hq => by have h9 := HFP7.out q hq; have hs0 := LTX.out; have hs1 := LTZ.out; have hs2 := LHR.out; have hs3 := LHC.out; have hs4 := SS1.out; have hs5 := SS2.out; have hs6 := SS3.out; have hs7 := HL0.out; have hs8 := HB9.out; have hs9 := HLN.out; have hs10 := SS4.out; have hs11 := SS5.out; have hs12 := SS6.out; have hs13 := SS7.out; omega), fun q h1 h2 => by have h9 := (HO7.out.inn q h1).1; have h8 := (HO5.out.inn q h2).2; omega, HB.out⟩
      | false =>
        have HE := Lib.hid (show r2 = (⟨s, xs⟩, []) by rw [← HR2.out]; exact recv_no (by unfold may; rw [HV.out, HD.out, HV2.out, HNB.out, HV3.out]; rfl))
        have cX0 : w1.cell? ⟨w.heap.size, 0, none⟩ = some (.int .i64 s) := X1.out.cell 0
        have cX1 : w1.cell? ⟨w.heap.size, 1, none⟩ = some (.slice A n c) := X1.out.cell 1
        go_wp2_with (refine stw.list_load rfl 50 _ rfl (w.heap.size) rfl 50 _ X1.out Try.underlying50 rfl ux.szRob ?_)
        clear cX0 cX1
        (with_reducible refine (implCp s xs lo hi A n c _ R1.out HN.out HBD.out).mono ?_)
        rintro e w2 hp
        obtain ⟨A3, n3, c3, f3, rfl, ho, hb⟩ := ro_parts hp
        clear hp
        have SS2 := Lib.hid hb.size
        have B2 := Lib.hid (B1.out.trans (hb.mono B1.out.size))
        have X2 := Lib.hid (X1.out.below hb)
        have Z2 := Lib.hid (Z1.out.below hb)
        have R2 := Lib.hid (R1.out.below hb)
        have Q2 := Lib.hid (Q1.out.below hb)
        clear hb B1 X1 Z1 R1 Q1
        have O2 := Lib.hid ho
        clear ho
        obtain ⟨be, hbe⟩ : ∃ b, w2.heap.size = b := ⟨_, rfl⟩
        have hE := Bx.made 22 w2 #[]
        have hbE := bx.below_box w2 (.cells #[] 22)
        rw [hbe] at hE
        have HL9 := Lib.hid (show w.heap.size + 1 < be by have h1 := Z2.out.lt; omega)
        go_wp2_with (refine stw.list_store rfl 50 _ _ rfl (w.heap.size + 1) #[.int .i64 s, .slice A3 n3 c3] rfl rfl 50 _ (Z2.out.below hbE) rfl ux.szRob (ux.oneRob _ _ _ _) ?_; intro wz hz)
        have hB := hz.on (B2.out.trans (hbE.mono B2.out.size)) (show w.heap.size ≤ w.heap.size + 1 by omega)
        have hE2 := hz.keep hE (by have := HL9.out; omega)
        have hO : OO rowNf wz w.heap.size wz.heap.size f3 (.slice A3 n3 c3) xs := ((O2.out.below hbE).same hz.below.size fun b h1 h2 => hz.other b (by have hs0 := LTX.out; have hs1 := LTZ.out; have hs2 := LHR.out; have hs3 := LHC.out; have hs4 := SS1.out; have hs5 := SS2.out; omega)).wide (by have hs0 := LTX.out; have hs1 := LTZ.out; have hs2 := LHR.out; have hs3 := LHC.out; have hs4 := SS1.out; have hs5 := SS2.out; omega)
        (try simp only [Exit.inBlock, Exit.then])
        refine bodyPost_ret (v := .tuple #[.agg #[.int .i64 s, .slice A3 n3 c3], .slice (some ⟨be, 0, none⟩) 0 0]) ?_ rfl ?_
        · rw [results_cell_tmp1 rfl]
          exact stw.back2 hz.box Try.underlying50 rfl ux.szRob _
        · (first | rw [HE.out] | rw [HR2.out, HE.out]); exact ⟨_, _, _, _, _, _, _, _, rfl, hO, ((ux.row_empty 22 ux.bytes hE2).wide (by have := HL9.out; omega)), fun b h1 h2 => by have h3 := (O2.out.inn b h1).2; have h4 := List.mem_singleton.1 h2; omega, hB⟩
    | false =>
      have HE := Lib.hid (show r2 = (⟨s, xs⟩, []) by rw [← HR2.out]; exact recv_no (by unfold may; rw [HV.out, HD.out, HV2.out, HNB.out, HV3.out]; rfl))
      have cX0 : w1.cell? ⟨w.heap.size, 0, none⟩ = some (.int .i64 s) := X1.out.cell 0
      have cX1 : w1.cell? ⟨w.heap.size, 1, none⟩ = some (.slice A n c) := X1.out.cell 1
      go_wp2_with (refine stw.list_load rfl 50 _ rfl (w.heap.size) rfl 50 _ X1.out Try.underlying50 rfl ux.szRob ?_)
      clear cX0 cX1
      (with_reducible refine (implCp s xs lo hi A n c _ R1.out HN.out HBD.out).mono ?_)
      rintro e w2 hp
      obtain ⟨A3, n3, c3, f3, rfl, ho, hb⟩ := ro_parts hp
      clear hp
      have SS2 := Lib.hid hb.size
      have B2 := Lib.hid (B1.out.trans (hb.mono B1.out.size))
      have X2 := Lib.hid (X1.out.below hb)
      have Z2 := Lib.hid (Z1.out.below hb)
      have R2 := Lib.hid (R1.out.below hb)
      have Q2 := Lib.hid (Q1.out.below hb)
      clear hb B1 X1 Z1 R1 Q1
      have O2 := Lib.hid ho
      clear ho
      obtain ⟨be, hbe⟩ : ∃ b, w2.heap.size = b := ⟨_, rfl⟩
      have hE := Bx.made 22 w2 #[]
      have hbE := bx.below_box w2 (.cells #[] 22)
      rw [hbe] at hE
      have HL9 := Lib.hid (show w.heap.size + 1 < be by have h1 := Z2.out.lt; omega)
      go_wp2_with (refine stw.list_store rfl 50 _ _ rfl (w.heap.size + 1) #[.int .i64 s, .slice A3 n3 c3] rfl rfl 50 _ (Z2.out.below hbE) rfl ux.szRob (ux.oneRob _ _ _ _) ?_; intro wz hz)
      have hB := hz.on (B2.out.trans (hbE.mono B2.out.size)) (show w.heap.size ≤ w.heap.size + 1 by omega)
      have hE2 := hz.keep hE (by have := HL9.out; omega)
      have hO : OO rowNf wz w.heap.size wz.heap.size f3 (.slice A3 n3 c3) xs := ((O2.out.below hbE).same hz.below.size fun b h1 h2 => hz.other b (by have hs0 := LTX.out; have hs1 := LTZ.out; have hs2 := LHR.out; have hs3 := LHC.out; have hs4 := SS1.out; have hs5 := SS2.out; omega)).wide (by have hs0 := LTX.out; have hs1 := LTZ.out; have hs2 := LHR.out; have hs3 := LHC.out; have hs4 := SS1.out; have hs5 := SS2.out; omega)
      (try simp only [Exit.inBlock, Exit.then])
      refine bodyPost_ret (v := .tuple #[.agg #[.int .i64 s, .slice A3 n3 c3], .slice (some ⟨be, 0, none⟩) 0 0]) ?_ rfl ?_
      · rw [results_cell_tmp1 rfl]
        exact stw.back2 hz.box Try.underlying50 rfl ux.szRob _
      · (first | rw [HE.out] | rw [HR2.out, HE.out]); exact ⟨_, _, _, _, _, _, _, _, rfl, hO, ((ux.row_empty 22 ux.bytes hE2).wide (by have := HL9.out; omega)), fun b h1 h2 => by have h3 := (O2.out.inn b h1).2; have h4 := List.mem_singleton.1 h2; omega, hB⟩
  | false =>
    have HE := Lib.hid (show r2 = (⟨s, xs⟩, []) by rw [← HR2.out]; exact recv_no (by unfold may; rw [HV.out, HD.out, HV2.out, HNB.out, HV3.out]; rfl))
    have cX0 : w1.cell? ⟨w.heap.size, 0, none⟩ = some (.int .i64 s) := X1.out.cell 0
    have cX1 : w1.cell? ⟨w.heap.size, 1, none⟩ = some (.slice A n c) := X1.out.cell 1
    go_wp2_with (refine stw.list_load rfl 50 _ rfl (w.heap.size) rfl 50 _ X1.out Try.underlying50 rfl ux.szRob ?_)
    clear cX0 cX1
    (with_reducible refine (implCp s xs lo hi A n c _ R1.out HN.out HBD.out).mono ?_)
    rintro e w2 hp
    obtain ⟨A3, n3, c3, f3, rfl, ho, hb⟩ := ro_parts hp
    clear hp
    have SS2 := Lib.hid hb.size
    have B2 := Lib.hid (B1.out.trans (hb.mono B1.out.size))
    have X2 := Lib.hid (X1.out.below hb)
    have Z2 := Lib.hid (Z1.out.below hb)
    have R2 := Lib.hid (R1.out.below hb)
    have Q2 := Lib.hid (Q1.out.below hb)
    clear hb B1 X1 Z1 R1 Q1
    have O2 := Lib.hid ho
    clear ho
    obtain ⟨be, hbe⟩ : ∃ b, w2.heap.size = b := ⟨_, rfl⟩
    have hE := Bx.made 22 w2 #[]
    have hbE := bx.below_box w2 (.cells #[] 22)
    rw [hbe] at hE
    have HL9 := Lib.hid (show w.heap.size + 1 < be by have h1 := Z2.out.lt; omega)
    go_wp2_with (refine stw.list_store rfl 50 _ _ rfl (w.heap.size + 1) #[.int .i64 s, .slice A3 n3 c3] rfl rfl 50 _ (Z2.out.below hbE) rfl ux.szRob (ux.oneRob _ _ _ _) ?_; intro wz hz)
    have hB := hz.on (B2.out.trans (hbE.mono B2.out.size)) (show w.heap.size ≤ w.heap.size + 1 by omega)
    have hE2 := hz.keep hE (by have := HL9.out; omega)
    have hO : OO rowNf wz w.heap.size wz.heap.size f3 (.slice A3 n3 c3) xs := ((O2.out.below hbE).same hz.below.size fun b h1 h2 => hz.other b (by have hs0 := LTX.out; have hs1 := LTZ.out; have hs2 := LHR.out; have hs3 := LHC.out; have hs4 := SS1.out; have hs5 := SS2.out; omega)).wide (by have hs0 := LTX.out; have hs1 := LTZ.out; have hs2 := LHR.out; have hs3 := LHC.out; have hs4 := SS1.out; have hs5 := SS2.out; omega)
    (try simp only [Exit.inBlock, Exit.then])
    refine bodyPost_ret (v := .tuple #[.agg #[.int .i64 s, .slice A3 n3 c3], .slice (some ⟨be, 0, none⟩) 0 0]) ?_ rfl ?_
    · rw [results_cell_tmp1 rfl]
      exact stw.back2 hz.box Try.underlying50 rfl ux.szRob _
    · (first | rw [HE.out] | rw [HR2.out, HE.out]); exact ⟨_, _, _, _, _, _, _, _, rfl, hO, ((ux.row_empty 22 ux.bytes hE2).wide (by have := HL9.out; omega)), fun b h1 h2 => by have h3 := (O2.out.inn b h1).2; have h4 := List.mem_singleton.1 h2; omega, hB⟩
end Go.Proofs.Ytejjafmppihneaa.ro
