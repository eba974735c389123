/- The convolutional code, puncturing and symbols as lists of numbers: linear, its lengths, what is restored. Condition: none (no program). -/
import Derived.Test.YtdelpepepbkjmaaBitm
namespace Go.Proofs.Ytdelpepepbkjmaa.cvm
open Go.RowKit sl bm
set_option linter.unusedVariables false

/-- A state of the encoder and a bit. -/
def Sb (s b : Int) : Prop := (0 ≤ s ∧ s ≤ 3) ∧ (0 ≤ b ∧ b ≤ 1)
instance (s b : Int) : Decidable (Sb s b) := inferInstanceAs (Decidable ((0 ≤ s ∧ s ≤ 3) ∧ (0 ≤ b ∧ b ≤ 1)))
theorem Sb.st {s b : Int} (h : Sb s b) : 0 ≤ s ∧ s ≤ 3 := h.1
theorem Sb.bit {s b : Int} (h : Sb s b) : 0 ≤ b ∧ b ≤ 1 := h.2
def op1 (s b : Int) : Int := (b + s % 2 + s / 2) % 2
def op2 (s b : Int) : Int := (b + s / 2) % 2
def nst (s b : Int) : Int := (2 * s + b) % 4
def nxt (s b : Int) : Int := if Sb s b then nst s b else 0
def outp (s b : Int) : Int × Int := if Sb s b then (op1 s b, op2 s b) else (0, 0)
theorem nxt_yes {s b : Int} (h : Sb s b) : nxt s b = nst s b := if_pos h
theorem nxt_no {s b : Int} (h : ¬ Sb s b) : nxt s b = 0 := if_neg h
theorem outp_yes {s b : Int} (h : Sb s b) : outp s b = (op1 s b, op2 s b) := if_pos h
theorem outp_no {s b : Int} (h : ¬ Sb s b) : outp s b = (0, 0) := if_neg h
theorem nst_in (s b : Int) : 0 ≤ nst s b ∧ nst s b ≤ 3 := by unfold nst; omega
theorem op1_in (s b : Int) : 0 ≤ op1 s b ∧ op1 s b ≤ 1 := by unfold op1; omega
theorem op2_in (s b : Int) : 0 ≤ op2 s b ∧ op2 s b ≤ 1 := by unfold op2; omega
/-- The symbols of some bits from a state on, and the state behind them. -/
def cw : Int → List Int → List Int
  | _, [] => []
  | s, b :: r => op1 s b :: op2 s b :: cw (nst s b) r
def fin : Int → List Int → Int
  | s, [] => s
  | s, b :: r => fin (nst s b) r
theorem cw_append : ∀ (s : Int) (a b : List Int), cw s (a ++ b) = cw s a ++ cw (fin s a) b
  | _, [], _ => rfl
  | s, x :: a, b => by simp only [List.cons_append, cw, fin, cw_append (nst s x) a b]
theorem fin_append : ∀ (s : Int) (a b : List Int), fin s (a ++ b) = fin (fin s a) b
  | _, [], _ => rfl
  | s, x :: a, b => by simp only [List.cons_append, fin, fin_append (nst s x) a b]
theorem cw_len : ∀ (s : Int) (a : List Int), (cw s a).length = 2 * a.length
  | _, [] => rfl
  | s, x :: a => by simp only [cw, List.length_cons, cw_len (nst s x) a]; omega
theorem cw_bit : ∀ (s : Int) (a : List Int), ∀ z ∈ cw s a, 0 ≤ z ∧ z ≤ 1
  | _, [], _, h => by cases h
  | s, x :: a, z, h => by
    simp only [cw, List.mem_cons] at h
    rcases h with rfl | rfl | h
    · exact op1_in s x
    · exact op2_in s x
    · exact cw_bit _ a z h
theorem fin_in : ∀ (s : Int) (a : List Int), 0 ≤ s ∧ s ≤ 3 → 0 ≤ fin s a ∧ fin s a ≤ 3
  | _, [], h => h
  | s, x :: a, _ => fin_in _ a (nst_in s x)
theorem take_one {zs : List Int} {k : Nat} (h : k < zs.length) : zs.take (k + 1) = zs.take k ++ [zs.getD k 0] := by
  rw [List.take_add_one, List.getElem?_eq_getElem h, List.getD_eq_getElem?_getD, List.getElem?_eq_getElem h]; rfl
theorem cw_take (s : Int) {zs : List Int} {k : Nat} (h : k < zs.length) {x : Int} (hx : zs.getD k 0 = x) : cw s (zs.take (k + 1)) = cw s (zs.take k) ++ [op1 (fin s (zs.take k)) x, op2 (fin s (zs.take k)) x] := by
  rw [take_one h, cw_append, hx]; rfl
theorem fin_take (s : Int) {zs : List Int} {k : Nat} (h : k < zs.length) {x : Int} (hx : zs.getD k 0 = x) : fin s (zs.take (k + 1)) = nst (fin s (zs.take k)) x := by
  rw [take_one h, fin_append, hx]; rfl
/-- The code word of some bits. -/
def tail (l : List Int) : List Int := l ++ [0, 0]
def conv (l : List Int) : List Int := if isb l = true then cw 0 (tail l) else []
theorem conv_yes {l : List Int} (h : isb l = true) : conv l = cw 0 (tail l) := if_pos h
theorem conv_no {l : List Int} (h : ¬ isb l = true) : conv l = [] := if_neg h
theorem tail_len (l : List Int) : (tail l).length = l.length + 2 := by simp [tail]
theorem tail_at (l : List Int) {k : Nat} (h : k < l.length) : (tail l).getD k 0 = l.getD k 0 := by
  rw [tail, List.getD_eq_getElem?_getD, List.getElem?_append_left h, List.getD_eq_getElem?_getD]
theorem tail_zero (l : List Int) {k : Nat} (h : ¬ k < l.length) : (tail l).getD k 0 = 0 := by
  rw [tail, List.getD_eq_getElem?_getD, List.getElem?_append_right (by omega)]
  rcases hk : k - l.length with _ | _ | m <;> simp
theorem tail_isb {l : List Int} (h : isb l = true) : isb (tail l) = true := (isb_iff _).2 fun z hz => by
  rcases List.mem_append.1 hz with hz | hz
  · exact isb_all h z hz
  · simp at hz; omega
theorem isb_tail {l : List Int} (h : isb (tail l) = true) : isb l = true := isb_sub h fun z hz => List.mem_append_left _ hz
theorem conv_len (l : List Int) : (conv l).length ≤ 2 * (l.length + 2) := by
  unfold conv
  split
  · rw [cw_len, tail_len]; omega
  · simp
theorem conv_len_yes {l : List Int} (h : isb l = true) : (conv l).length = 2 * (l.length + 2) := by rw [conv_yes h, cw_len, tail_len]
theorem conv_bit (l : List Int) : ∀ z ∈ conv l, 0 ≤ z ∧ z ≤ 1 := fun z hz => by
  unfold conv at hz
  split at hz
  · exact cw_bit _ _ z hz
  · cases hz
theorem conv_isb (l : List Int) : isb (conv l) = true := (isb_iff _).2 (conv_bit l)
theorem conv_wf (l : List Int) : Wf .i64 (conv l) := Wf.of_i64 fun z hz => by have := conv_bit l z hz; omega
/-- The sum of two bits, and of two states bit by bit. -/
def bx (x y : Int) : Int := bits .and .i64 (bits .xor .i64 x y) 1
def sx (s t : Int) : Int := ((s % 2 + t % 2) % 2) + 2 * ((s / 2 + t / 2) % 2)
theorem bx_in {x y : Int} (hx : 0 ≤ x ∧ x ≤ 1) (hy : 0 ≤ y ∧ y ≤ 1) : bx x y = (x + y) % 2 := by
  rw [bx, bit_xor hx hy]; split <;> omega
theorem lin1 {s t b c : Int} (hs : 0 ≤ s ∧ s ≤ 3) (ht : 0 ≤ t ∧ t ≤ 3) (hb : 0 ≤ b ∧ b ≤ 1) (hc : 0 ≤ c ∧ c ≤ 1) : bx (op1 s b) (op1 t c) = op1 (sx s t) (bx b c) := by
  rw [bx_in (op1_in s b) (op1_in t c), bx_in hb hc]; unfold op1 sx; omega
theorem lin2 {s t b c : Int} (hs : 0 ≤ s ∧ s ≤ 3) (ht : 0 ≤ t ∧ t ≤ 3) (hb : 0 ≤ b ∧ b ≤ 1) (hc : 0 ≤ c ∧ c ≤ 1) : bx (op2 s b) (op2 t c) = op2 (sx s t) (bx b c) := by
  rw [bx_in (op2_in s b) (op2_in t c), bx_in hb hc]; unfold op2 sx; omega
theorem lin3 {s t b c : Int} (hs : 0 ≤ s ∧ s ≤ 3) (ht : 0 ≤ t ∧ t ≤ 3) (hb : 0 ≤ b ∧ b ≤ 1) (hc : 0 ≤ c ∧ c ≤ 1) : sx (nst s b) (nst t c) = nst (sx s t) (bx b c) := by
  rw [bx_in hb hc]; unfold nst sx; omega
theorem cw_lin : ∀ (a b : List Int) (s t : Int), 0 ≤ s ∧ s ≤ 3 → 0 ≤ t ∧ t ≤ 3 → (∀ z ∈ a, 0 ≤ z ∧ z ≤ 1) → (∀ z ∈ b, 0 ≤ z ∧ z ≤ 1) → a.length = b.length → xorB (cw s a) (cw t b) = cw (sx s t) (xorB a b)
  | [], b, s, t, _, _, _, _, _ => by simp [cw, xorB]
  | x :: a, [], s, t, _, _, _, _, h => by simp at h
  | x :: a, y :: b, s, t, hs, ht, ha, hb, h => by
    have hx := ha x (List.mem_cons_self ..)
    have hy := hb y (List.mem_cons_self ..)
    have ih := cw_lin a b (nst s x) (nst t y) (nst_in s x) (nst_in t y) (fun z hz => ha z (List.mem_cons_of_mem _ hz)) (fun z hz => hb z (List.mem_cons_of_mem _ hz)) (by simpa using h)
    have e1 : xorB (cw s (x :: a)) (cw t (y :: b)) = bx (op1 s x) (op1 t y) :: bx (op2 s x) (op2 t y) :: xorB (cw (nst s x) a) (cw (nst t y) b) := rfl
    have e2 : xorB (x :: a) (y :: b) = bx x y :: xorB a b := rfl
    rw [e1, e2, ih, lin1 hs ht hx hy, lin2 hs ht hx hy, lin3 hs ht hx hy]
    rfl
theorem xor_isb {a b : List Int} (ha : isb a = true) (hb : isb b = true) : isb (xorB a b) = true := isb_of_at fun i hi => by
  rw [xorB_len] at hi
  rw [xorB_at a b (by omega) (by omega)]
  have := bx_in (isb_getD ha i) (isb_getD hb i)
  unfold bx at this
  rw [this]; omega
theorem xor_tail {a b : List Int} (h : a.length = b.length) : xorB (tail a) (tail b) = tail (xorB a b) := by
  unfold tail xorB
  rw [List.zipWith_append h]
  rfl
theorem conv_lin {a b : List Int} (ha : isb a = true) (hb : isb b = true) (h : a.length = b.length) : xorB (conv a) (conv b) = conv (xorB a b) := by
  rw [conv_yes ha, conv_yes hb, conv_yes (xor_isb ha hb), cw_lin _ _ 0 0 (by omega) (by omega) (isb_all (tail_isb ha)) (isb_all (tail_isb hb)) (by rw [tail_len, tail_len, h]), xor_tail h]
  rfl
/-- The lengths. -/
def enl (c : Int) : Int := if 0 ≤ c ∧ c ≤ 1000000000000 then 2 * (c + 2) else 0
theorem enl_yes {c : Int} (h : 0 ≤ c ∧ c ≤ 1000000000000) : enl c = 2 * (c + 2) := if_pos h
theorem enl_no {c : Int} (h : ¬ (0 ≤ c ∧ c ≤ 1000000000000)) : enl c = 0 := if_neg h
def plen (n : Int) : Int := if n < 0 then 0 else n - n / 4
theorem plen_nat (n : Nat) : plen n = ((n - n / 4 : Nat) : Int) := by unfold plen; rw [if_neg (by omega)]; omega
theorem plen_neg {n : Int} (h : n < 0) : plen n = 0 := if_pos h
/-- What puncturing leaves, from the index i on. -/
def pk : Nat → List Int → List Int
  | _, [] => []
  | i, x :: r => if i % 4 = 3 then pk (i + 1) r else x :: pk (i + 1) r
theorem pk_append : ∀ (i : Nat) (a b : List Int), pk i (a ++ b) = pk i a ++ pk (i + a.length) b
  | i, [], b => rfl
  | i, x :: a, b => by
    simp only [List.cons_append, pk, pk_append (i + 1) a b, List.length_cons]
    rw [show i + (a.length + 1) = i + 1 + a.length by omega]
    split <;> rfl
theorem pk_take {zs : List Int} {k : Nat} (h : k < zs.length) {x : Int} (hx : zs.getD k 0 = x) : pk 0 (zs.take (k + 1)) = if k % 4 = 3 then pk 0 (zs.take k) else pk 0 (zs.take k) ++ [x] := by
  rw [take_one h, pk_append, hx, List.length_take, Nat.min_eq_left (by omega), Nat.zero_add]
  simp only [pk]
  split
  · rw [List.append_nil]
  · rfl
theorem pk_len (zs : List Int) : ∀ k, k ≤ zs.length → (pk 0 (zs.take k)).length = k - k / 4
  | 0, _ => rfl
  | k + 1, h => by
    have ih := pk_len zs k (by omega)
    rw [pk_take (by omega) rfl]
    split
    · rw [ih]; omega
    · rw [List.length_append, ih, List.length_singleton]; omega
def punc (l : List Int) : List Int := pk 0 l
theorem punc_len (l : List Int) : (punc l).length = l.length - l.length / 4 := by
  have := pk_len l l.length (Nat.le_refl _)
  rwa [List.take_of_length_le (Nat.le_refl _)] at this
theorem pk_mem : ∀ (i : Nat) (l : List Int), ∀ z ∈ pk i l, z ∈ l
  | _, [], _, h => by cases h
  | i, x :: r, z, h => by
    simp only [pk] at h
    split at h
    · exact List.mem_cons_of_mem _ (pk_mem _ r z h)
    · rcases List.mem_cons.1 h with rfl | h
      · exact List.mem_cons_self ..
      · exact List.mem_cons_of_mem _ (pk_mem _ r z h)
theorem punc_wf {l : List Int} (h : Wf .i64 l) : Wf .i64 (punc l) := fun z hz => h z (pk_mem 0 l z hz)
theorem punc_at (l : List Int) {k : Nat} (h : k < l.length) (h3 : ¬ k % 4 = 3) : (punc l).getD (k - k / 4) 0 = l.getD k 0 := by
  have e : l = l.take k ++ (l.getD k 0 :: l.drop (k + 1)) := by
    have h1 := List.take_append_drop (k + 1) l
    rw [take_one h, List.append_assoc] at h1
    exact h1.symm
  have h2 : punc l = pk 0 (l.take k) ++ (l.getD k 0 :: pk (k + 1) (l.drop (k + 1))) := by
    unfold punc
    conv => lhs; rw [e]
    rw [pk_append, List.length_take, Nat.min_eq_left (by omega), Nat.zero_add]
    simp only [pk, if_neg h3]
  rw [h2, List.getD_eq_getElem?_getD, List.getElem?_append_right (by rw [pk_len l k (by omega)]; omega), pk_len l k (by omega), Nat.sub_self]
  rfl
/-- What is restored. -/
def dep1 (l : List Int) (m : Nat) : List Int := (List.range m).map fun i => if i % 4 = 3 then 2 else l.getD (i - i / 4) 0
def dep (l : List Int) (c : Int) : List Int := if (0 ≤ c ∧ c ≤ 4000) ∧ (l.length : Int) = plen c then dep1 l c.toNat else []
theorem dep_yes {l : List Int} {c : Int} (h : 0 ≤ c ∧ c ≤ 4000) (h2 : (l.length : Int) = plen c) : dep l c = dep1 l c.toNat := if_pos ⟨h, h2⟩
theorem dep_no {l : List Int} {c : Int} (h : ¬ ((0 ≤ c ∧ c ≤ 4000) ∧ (l.length : Int) = plen c)) : dep l c = [] := if_neg h
theorem dep1_len (l : List Int) (m : Nat) : (dep1 l m).length = m := by simp [dep1]
theorem dep1_at (l : List Int) {m i : Nat} (h : i < m) : (dep1 l m).getD i 0 = if i % 4 = 3 then 2 else l.getD (i - i / 4) 0 := by
  simp [dep1, List.getD_eq_getElem?_getD, h]
theorem dep_len (l : List Int) (c : Int) : (dep l c).length ≤ 4000 := by
  unfold dep
  split
  · rw [dep1_len]; omega
  · simp
theorem dep1_wf {l : List Int} (h : Wf .i64 l) (m : Nat) : Wf .i64 (dep1 l m) := fun z hz => by
  obtain ⟨i, _, rfl⟩ := List.mem_map.1 hz
  split
  · exact WalkArith.wf_i64 (by omega)
  · rcases Nat.lt_or_ge (i - i / 4) l.length with hi | hi
    · exact h.getD hi
    · rw [List.getD_eq_getElem?_getD, List.getElem?_eq_none hi]; exact WalkArith.wf_i64 (by simp)
theorem dep_wf {l : List Int} (h : Wf .i64 l) (c : Int) : Wf .i64 (dep l c) := by
  unfold dep
  split
  · exact dep1_wf h _
  · exact Wf.nil _
theorem dep_punc (l : List Int) (h : l.length ≤ 4000) : dep (punc l) l.length = dep1 (punc l) l.length := by
  rw [dep_yes (by omega) (by rw [plen_nat, punc_len]), Int.toNat_natCast]
theorem dep_punc4 (l : List Int) : dep (punc l) ((l.length + 4 : Nat) : Int) = [] := dep_no fun h => by
  have := h.2
  rw [plen_nat, punc_len] at this
  omega
theorem conv_ins (l : List Int) : inr (conv l) 0 2 = true := (inr_iff _ _ _).2 fun z hz => by have := conv_bit l z hz; omega
theorem weight_one : wt (conv [1]) = 5 := by decide +kernel
end Go.Proofs.Ytdelpepepbkjmaa.cvm
