/- A region that draws its order and stores whole variables whose places are known, in whatever order the stores come: what each operation may do to the world, what is right of its value and stays so. Condition: none. -/
import Derived.Test.YtalfihfielgmpaaStw
import Derived.Test.YtalfihfielgmpaaDrk
namespace Go.Proofs.Ytalfihfielgmpaa.stw
open Go.RowKit sl harn bx draw drk
set_option linter.unusedVariables false

/-- What a store leaves, and where. -/
structure Tgt where
  T : TypeId
  b : Nat
  cs : Array Value
section
variable (D : World → World → Prop) (ts : List (Nat × Tgt))
/-- Operation i: a store that is listed, or what the relation D allows. -/
def E3 (i : Nat) (w w' : World) : Prop := match ts.lookup i with
  | some t => Put t.T w t.b t.cs w'
  | none => D w w'
structure St3 where
  q : Value → World → Prop
  h1 : ∀ v w w', q v w → D w w' → q v w'
  h2 : ∀ v w w' x, x ∈ ts → q v w → Put x.2.T w x.2.b x.2.cs w' → q v w'
def is3 (x : Value) : St3 D ts := ⟨fun v _ => v = x, fun _ _ _ h _ => h, fun _ _ _ _ _ h _ => h⟩
def val3 (p : Value → Prop) : St3 D ts := ⟨fun v _ => p v, fun _ _ _ h _ => h, fun _ _ _ _ _ h _ => h⟩
/-- A block that the region makes. -/
def blk3 (kp : Nat → Prop) (hD : ∀ {w w' : World} {T : TypeId} {b : Nat} {cs : Array Value}, D w w' → kp b → Bx T w b cs → Bx T w' b cs) (f : Nat → Value) (T : TypeId) (cs : Array Value) : St3 D ts :=
  ⟨fun v w => ∃ N, v = f N ∧ kp N ∧ (∀ x ∈ ts, x.2.b ≠ N) ∧ Bx T w N cs, fun v w w' ⟨N, h1, h2, h3, h4⟩ h => ⟨N, h1, h2, h3, hD h h2 h4⟩, fun v w w' x hx ⟨N, h1, h2, h3, h4⟩ h => ⟨N, h1, h2, h3, h.keep h4 (fun e => h3 x hx e.symm)⟩⟩
def r3 (l : List (St3 D ts)) (j : Nat) (v : Value) (w : World) : Prop := match ts.lookup j with
  | some t => Bx t.T w t.b t.cs
  | none => (l.getD j (val3 D ts fun _ => True)).q v w
end
section
variable {D : World → World → Prop} {ts : List (Nat × Tgt)}
theorem lookup_mem : ∀ {ts : List (Nat × Tgt)} {i : Nat} {t : Tgt}, ts.lookup i = some t → (i, t) ∈ ts
  | (k, u) :: l, i, t, h => by
    rw [List.lookup_cons] at h
    split at h
    · rename_i he
      have e : i = k := by simpa using he
      rw [e, Option.some.inj h]
      exact List.mem_cons_self
    · exact List.mem_cons_of_mem _ (lookup_mem h)
theorem r3_keep (kp : Nat → Prop) (hD : ∀ {w w' : World} {T : TypeId} {b : Nat} {cs : Array Value}, D w w' → kp b → Bx T w b cs → Bx T w' b cs) (hp : ∀ x ∈ ts, kp x.2.b) (hd : ∀ x ∈ ts, ∀ y ∈ ts, x.1 ≠ y.1 → x.2.b ≠ y.2.b) (l : List (St3 D ts))
    (i j : Nat) (v : Value) (w w' : World) (hij : i ≠ j) (h : r3 D ts l j v w) (he : E3 D ts i w w') : r3 D ts l j v w' := by
  unfold r3 at h ⊢
  unfold E3 at he
  cases hj : ts.lookup j with
  | some t =>
    rw [hj] at h
    simp only at h ⊢
    cases hi : ts.lookup i with
    | some u =>
      rw [hi] at he
      exact Put.keep he h (hd _ (lookup_mem hj) _ (lookup_mem hi) (fun e => hij e.symm))
    | none => rw [hi] at he; exact hD he (hp _ (lookup_mem hj)) h
  | none =>
    rw [hj] at h
    simp only at h ⊢
    cases hi : ts.lookup i with
    | some u => rw [hi] at he; exact (l.getD j (val3 D ts fun _ => True)).h2 v w w' _ (lookup_mem hi) h he
    | none => rw [hi] at he; exact (l.getD j (val3 D ts fun _ => True)).h1 v w w' h he
theorem r3_ne {l : List (St3 D ts)} {j : Nat} {v : Value} {w : World} (hj : ts.lookup j = none) (h : (l.getD j (val3 D ts fun _ => True)).q v w) : r3 D ts l j v w := by
  unfold r3; rw [hj]; exact h
theorem r3_out {l : List (St3 D ts)} {j : Nat} {v : Value} {w : World} (hj : ts.lookup j = none) (h : r3 D ts l j v w) : (l.getD j (val3 D ts fun _ => True)).q v w := by
  unfold r3 at h; rw [hj] at h; exact h
theorem r3_put {l : List (St3 D ts)} {j : Nat} {v : Value} {w : World} {t : Tgt} (hj : ts.lookup j = some t) (h : Bx t.T w t.b t.cs) : r3 D ts l j v w := by
  unfold r3; rw [hj]; exact h
theorem r3_got {l : List (St3 D ts)} {j : Nat} {v : Value} {w : World} {t : Tgt} (hj : ts.lookup j = some t) (h : r3 D ts l j v w) : Bx t.T w t.b t.cs := by
  unfold r3 at h; rw [hj] at h; exact h
theorem e3_ne {i : Nat} {w w' : World} (hi : ts.lookup i = none) (h : D w w') : E3 D ts i w w' := by unfold E3; rw [hi]; exact h
theorem e3_put {i : Nat} {w w' : World} {t : Tgt} (hi : ts.lookup i = some t) (h : Put t.T w t.b t.cs w') : E3 D ts i w w' := by unfold E3; rw [hi]; exact h
theorem E3.cases {i : Nat} {w w' : World} {X : Prop} (h : E3 D ts i w w') (h1 : D w w' → X) (h2 : ∀ x ∈ ts, Put x.2.T w x.2.b x.2.cs w' → X) : X := by
  unfold E3 at h
  cases hi : ts.lookup i with
  | some u => rw [hi] at h; exact h2 _ (lookup_mem hi) h
  | none => rw [hi] at h; exact h1 h
end
/-- A variable lies there, whatever it holds. -/
def Lies (T : TypeId) (b n : Nat) (w : World) : Prop := ∃ cs, cs.size = n ∧ Bx T w b cs
theorem Lies.of {T : TypeId} {w : World} {b : Nat} {cs : Array Value} (h : Bx T w b cs) : Lies T b cs.size w := ⟨cs, rfl, h⟩
theorem Lies.same {T : TypeId} {b n : Nat} {w w' : World} (h : Lies T b n w) (hb : w'.heap[b]? = w.heap[b]?) : Lies T b n w' := by
  obtain ⟨cs, h1, h2⟩ := h; exact ⟨cs, h1, h2.same hb⟩
theorem Lies.lt {T : TypeId} {b n : Nat} {w : World} (h : Lies T b n w) : b < w.heap.size := by
  obtain ⟨cs, h1, h2⟩ := h; exact h2.lt
theorem Lies.put {T U : TypeId} {b c n : Nat} {w w' : World} {cs : Array Value} (h : Lies T b n w) (hp : Put U w c cs w') (he : c = b → U = T ∧ cs.size = n) : Lies T b n w' := by
  by_cases hc : c = b
  · obtain ⟨e1, e2⟩ := he hc
    subst hc e1
    exact ⟨cs, e2, hp.box⟩
  · exact h.same (hp.other b (fun e => hc e.symm))
/-- Of what was there only listed blocks may have been written. -/
structure KS (S : List Nat) (w w' : World) : Prop where
  os : w'.os = w.os
  tape : w'.tape = w.tape
  output : w'.output = w.output
  size : w.heap.size ≤ w'.heap.size
  block : ∀ k, k < w.heap.size → k ∉ S → w'.heap[k]? = w.heap[k]?
theorem KS.refl (S : List Nat) (w : World) : KS S w w := ⟨rfl, rfl, rfl, Nat.le_refl _, fun _ _ _ => rfl⟩
theorem KS.trans {S : List Nat} {a b c : World} (h : KS S a b) (g : KS S b c) : KS S a c :=
  ⟨g.os.trans h.os, g.tape.trans h.tape, g.output.trans h.output, Nat.le_trans h.size g.size, fun k h1 h2 => (g.block k (Nat.lt_of_lt_of_le h1 h.size) h2).trans (h.block k h1 h2)⟩
theorem KS.keep {S : List Nat} {p : Nat} {w w' : World} (h : Keep p w w') (hp : p ∈ S) : KS S w w' := ⟨h.os, h.tape, h.output, h.size, fun k h1 h2 => h.block k h1 (fun e => h2 (e ▸ hp))⟩
theorem KS.put {S : List Nat} {T : TypeId} {w w' : World} {b : Nat} {cs : Array Value} (h : Put T w b cs w') (hb : b ∈ S) : KS S w w' :=
  ⟨h.below.os, h.below.tape, h.below.output, h.below.size, fun k _ h2 => h.other k (fun e => h2 (e ▸ hb))⟩
theorem KS.below {S : List Nat} {w w' : World} {B : Nat} (h : KS S w w') (hS : ∀ x ∈ S, B ≤ x) (hB : B ≤ w.heap.size) : Below B w w' :=
  ⟨h.os, h.tape, h.output, h.size, fun k hk => h.block k (by omega) (fun hm => by have := hS k hm; omega)⟩
/-- The cursor behind a store beside it. -/
theorem cur_put {T : TypeId} {w0 w w' : World} {p q b : Nat} {A : Option Addr} {len cap : Nat} {cs : Array Value} (hc : draw.Code w0 q A len) (h : Cur w p A len cap) (hp : Put T w b cs w') (hb0 : w0.heap.size ≤ b) (hbp : b ≠ p) : Cur w' p A len cap := by
  obtain ⟨⟨hl, hcode⟩, i, g, hi, hblk⟩ := h
  refine ⟨⟨hl, fun h0 => ?_⟩, i, g, hi, (hp.other p (fun e => hbp e.symm)).trans hblk⟩
  obtain ⟨b1, off, e, hn, hb, hcells⟩ := hcode h0
  obtain ⟨b2, off2, e2, _, hb2, _⟩ := hc.2 h0
  obtain rfl : b1 = b2 := by
    have := e.symm.trans e2
    injection this with this
    injection this
  have hh := hp.other b1 (by omega)
  refine ⟨b1, off, e, hn, Nat.lt_of_lt_of_le hb hp.below.size, fun j hj => ?_⟩
  obtain ⟨z, h1, h2, h3⟩ := hcells j hj
  exact ⟨z, h1, h2, by rw [show w'.cell? ⟨b1, off + j, none⟩ = w.cell? ⟨b1, off + j, none⟩ by simp [World.cell?, hh]]; exact h3⟩
/-- One of some numbers that lie in a block. -/
theorem pickAt (lo hi : Int) (n : Nat) (hn0 : 0 < n) (hn : (n : Int) ≤ 9223372036854775807) (w : World) (p q : Nat) (a : Option Addr) (len cap : Nat) (vs : Array Value) (T : TypeId) (hX : Bx T w q vs) (hq : q ≠ p) (hs : vs.size = n) (ha : vs.toList.all (okInt lo hi) = true) (hc : Cur w p a len cap) :
    Calls Try.prog 61 #[.pointer (some ⟨p, 0, none⟩), .slice (some ⟨q, 0, none⟩) n n] w (IntPost lo hi p a len cap w) := by
  refine (pickInt (fun z => lo ≤ z ∧ z ≤ hi) n hn0 hn _ p q a len cap n ⟨hq, hX.lt, fun i hi => ⟨vs[i]'(by omega), of_okInt (List.all_eq_true.1 ha _ (by simp)), ?_⟩⟩ hc).mono ?_
  · rw [hX.cell i]; simp [show i < vs.size by omega]
  · rintro e w1 ⟨v, rfl, ⟨z, rfl, h1, h2⟩, hk, hc1⟩
    exact ⟨z, rfl, h1, h2, hk, hc1⟩
theorem dr_same {p : Nat} {a : Option Addr} {len cap : Nat} {w : World} (hc : Cur w p a len cap) : Dr p a len cap w w := ⟨Keep.refl p w, hc⟩
theorem dr_below {p : Nat} {a : Option Addr} {len cap : Nat} {w w' : World} (hc : Cur w p a len cap) (hb : Below w.heap.size w w') : Dr p a len cap w w' := ⟨later (Keep.refl p w) (Nat.le_refl _) hb, cur_below hc hb⟩
end Go.Proofs.Ytalfihfielgmpaa.stw
