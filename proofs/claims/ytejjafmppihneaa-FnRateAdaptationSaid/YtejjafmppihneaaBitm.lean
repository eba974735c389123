/- Bit strings as lists of numbers: bits of a number, the number of bits, and that each undoes the other. Condition: none (no program). -/
import Derived.Test.YtejjafmppihneaaSl
import Derived.WalkKit
namespace Go.Proofs.Ytejjafmppihneaa.bm
open Go.RowKit sl
set_option linter.unusedVariables false

def Bit (z : Int) : Prop := z = 0 ∨ z = 1
/-- Is every element 0 or 1? -/
def isb (l : List Int) : Bool := l.all fun z => decide (0 ≤ z ∧ z ≤ 1)
theorem isb_iff (l : List Int) : isb l = true ↔ ∀ z ∈ l, 0 ≤ z ∧ z ≤ 1 := by simp [isb]
theorem isb_all {l : List Int} (h : isb l = true) : ∀ z ∈ l, 0 ≤ z ∧ z ≤ 1 := (isb_iff l).1 h
theorem isb_getD {l : List Int} (h : isb l = true) (i : Nat) : 0 ≤ l.getD i 0 ∧ l.getD i 0 ≤ 1 := by
  rw [List.getD_eq_getElem?_getD]
  rcases Nat.lt_or_ge i l.length with hi | hi
  · rw [List.getElem?_eq_getElem hi]; exact isb_all h _ (List.getElem_mem hi)
  · rw [List.getElem?_eq_none hi]; simp
theorem isb_of_at {l : List Int} (h : ∀ i, i < l.length → 0 ≤ l.getD i 0 ∧ l.getD i 0 ≤ 1) : isb l = true := (isb_iff l).2 fun z hz => by
  obtain ⟨i, hi, rfl⟩ := List.getElem_of_mem hz
  have := h i hi
  rwa [List.getD_eq_getElem?_getD, List.getElem?_eq_getElem hi] at this
theorem isb_no {l : List Int} {i : Nat} (hi : i < l.length) (h : ¬ (0 ≤ l.getD i 0 ∧ l.getD i 0 ≤ 1)) : isb l = false := by
  cases e : isb l
  · rfl
  · exact absurd (isb_getD e i) h
theorem isb_sub {l m : List Int} (h : isb l = true) (hs : ∀ z ∈ m, z ∈ l) : isb m = true := (isb_iff m).2 fun z hz => isb_all h z (hs z hz)

/-- Is every element from lo to hi? -/
def inr (l : List Int) (lo hi : Int) : Bool := l.all fun z => decide (lo ≤ z ∧ z ≤ hi)
theorem inr_isb (l : List Int) : inr l 0 1 = isb l := rfl
theorem inr_iff (l : List Int) (lo hi : Int) : inr l lo hi = true ↔ ∀ z ∈ l, lo ≤ z ∧ z ≤ hi := by simp [inr]
theorem inr_of_at {l : List Int} {lo hi : Int} (h : ∀ i, i < l.length → lo ≤ l.getD i 0 ∧ l.getD i 0 ≤ hi) : inr l lo hi = true := (inr_iff _ _ _).2 fun z hz => by
  obtain ⟨i, hi, rfl⟩ := List.getElem_of_mem hz
  have := h i hi
  rwa [List.getD_eq_getElem?_getD, List.getElem?_eq_getElem hi] at this
theorem inr_no {l : List Int} {lo hi : Int} {i : Nat} (hi' : i < l.length) (h : ¬ (lo ≤ l.getD i 0 ∧ l.getD i 0 ≤ hi)) : inr l lo hi = false := by
  cases e : inr l lo hi
  · rfl
  · have := (inr_iff _ _ _).1 e (l[i]) (List.getElem_mem hi')
    rw [List.getD_eq_getElem?_getD, List.getElem?_eq_getElem hi'] at h
    exact absurd this h
theorem next_in {zs : List Int} {lo hi : Int} {k : Nat} {x : Int} (h : ∀ j, j < k → lo ≤ zs.getD j 0 ∧ zs.getD j 0 ≤ hi) (hx : zs.getD k 0 = x) (h1 : lo ≤ x) (h2 : x ≤ hi) : ∀ j, j < k + 1 → lo ≤ zs.getD j 0 ∧ zs.getD j 0 ≤ hi := fun j hj => by
  rcases Nat.lt_or_ge j k with hjk | hjk
  · exact h j hjk
  · obtain rfl : j = k := by omega
    rw [hx]; exact ⟨h1, h2⟩

/-- The number of a bit string, bit 0 first. -/
def num : List Int → Int
  | [] => 0
  | x :: l => x + 2 * num l
theorem num_append : ∀ (a b : List Int), num (a ++ b) = num a + num b * 2 ^ a.length
  | [], b => by simp [num]
  | x :: a, b => by
    rw [List.cons_append, num, num, num_append a b, List.length_cons, Int.pow_succ, Int.mul_add, Int.mul_comm 2 (num b * 2 ^ a.length), Int.mul_assoc]; omega
theorem num_in : ∀ {l : List Int}, (∀ z ∈ l, 0 ≤ z ∧ z ≤ 1) → 0 ≤ num l ∧ num l < 2 ^ l.length
  | [], _ => by simp [num]
  | x :: l, h => by
    have h1 := h x (List.mem_cons_self ..)
    have h2 := num_in (l := l) fun z hz => h z (List.mem_cons_of_mem _ hz)
    rw [num, List.length_cons, Int.pow_succ]
    omega
theorem num_take (l : List Int) {k : Nat} (h : k < l.length) : num (l.take (k + 1)) = num (l.take k) + l.getD k 0 * 2 ^ k := by
  rw [List.take_add_one, num_append, List.getElem?_eq_getElem h, List.getD_eq_getElem?_getD, List.getElem?_eq_getElem h]
  simp [num, List.length_take, Nat.min_eq_left (Nat.le_of_lt h)]
theorem pow_le {k m : Nat} (h : k ≤ m) : (2 : Int) ^ k ≤ 2 ^ m := by
  have := Nat.pow_le_pow_right (show 0 < 2 by omega) h
  exact_mod_cast this
theorem pow_pos (k : Nat) : (0 : Int) < 2 ^ k := Int.pow_pos (by omega)

/-- The first c bits of a number. -/
def dig (n : Int) (c : Nat) : List Int := (List.range c).map fun (k : Nat) => n / 2 ^ k % 2
theorem dig_len (n : Int) (c : Nat) : (dig n c).length = c := by simp [dig]
theorem dig_at (n : Int) {c k : Nat} (h : k < c) : (dig n c).getD k 0 = n / 2 ^ k % 2 := by simp [dig, List.getD_eq_getElem?_getD, h]
theorem dig_bit (n : Int) (c : Nat) : ∀ z ∈ dig n c, 0 ≤ z ∧ z ≤ 1 := fun z hz => by
  obtain ⟨k, _, rfl⟩ := List.mem_map.1 hz
  omega
theorem dig_succ (n : Int) (c : Nat) : dig n (c + 1) = dig n c ++ [n / 2 ^ c % 2] := by simp [dig, List.range_succ]
theorem num_dig (n : Int) : ∀ c : Nat, num (dig n c) = n % 2 ^ c
  | 0 => by simp [dig, num]
  | c + 1 => by
    rw [dig_succ, num_append, num_dig n c, dig_len]
    simp only [num]
    have hp := pow_pos c
    have e1 : n % 2 ^ (c + 1) = n % 2 ^ c + n / 2 ^ c % 2 * 2 ^ c := by
      rw [Int.pow_succ]
      have h1 := Int.emod_add_mul_ediv n (2 ^ c)
      have h2 := Int.emod_add_mul_ediv (n / 2 ^ c) 2
      have h3 := Int.emod_lt_of_pos n hp
      have h4 := Int.emod_nonneg n (show (2 : Int) ^ c ≠ 0 by omega)
      generalize n % 2 ^ c = r at *
      generalize n / 2 ^ c = q at *
      have h5 : q % 2 = 0 ∨ q % 2 = 1 := by omega
      generalize q / 2 = s at *
      have e : n = (r + q % 2 * 2 ^ c) + 2 ^ c * 2 * s := by
        rw [← h1]
        conv => lhs; rw [← h2]
        rw [Int.mul_add, Int.mul_comm (2 ^ c) (q % 2), Int.mul_assoc, Int.add_assoc]
      rw [e, Int.add_mul_emod_self_left]
      apply Int.emod_eq_of_lt
      · rcases h5 with h5 | h5 <;> rw [h5] <;> omega
      · rcases h5 with h5 | h5 <;> rw [h5] <;> omega
    rw [e1, Int.mul_zero, Int.add_zero]
theorem ediv2 (n m : Int) (h : 0 ≤ m) : n / 2 / m = n / (2 * m) := by
  rw [Int.ediv_ediv, if_neg (by omega), Int.sub_zero]
theorem num_div : ∀ (l : List Int), (∀ z ∈ l, 0 ≤ z ∧ z ≤ 1) → ∀ k : Nat, num l / 2 ^ k % 2 = l.getD k 0
  | [], _, k => by simp [num]
  | x :: l, h, 0 => by
    have h1 := h x (List.mem_cons_self ..)
    simp [num]; omega
  | x :: l, h, k + 1 => by
    have h1 := h x (List.mem_cons_self ..)
    have ih := num_div l (fun z hz => h z (List.mem_cons_of_mem _ hz)) k
    have e : num (x :: l) / 2 ^ (k + 1) = num l / 2 ^ k := by
      rw [Int.pow_succ, Int.mul_comm (2 ^ k) 2, ← ediv2 _ _ (Int.le_of_lt (pow_pos k))]
      congr 1
      simp only [num]; omega
    rw [e, ih]; simp
theorem dig_num {l : List Int} (h : ∀ z ∈ l, 0 ≤ z ∧ z ≤ 1) : dig (num l) l.length = l := by
  apply List.ext_getElem (dig_len _ _)
  intro i h1 h2
  have := num_div l h i
  rw [List.getD_eq_getElem?_getD, List.getElem?_eq_getElem h2] at this
  simpa [dig] using this

/-- The bits of bytes. -/
def btb (l : List Int) : List Int := l.flatMap fun x => dig x 8
theorem btb_nil : btb [] = [] := rfl
theorem btb_append (a b : List Int) : btb (a ++ b) = btb a ++ btb b := by simp [btb]
theorem btb_one (x : Int) : btb [x] = dig x 8 := by simp [btb]
theorem btb_len (l : List Int) : (btb l).length = 8 * l.length := by
  induction l with
  | nil => rfl
  | cons x l ih => rw [show x :: l = [x] ++ l from rfl, btb_append, List.length_append, ih, btb_one, dig_len, List.length_append]; simp; omega
theorem btb_bit (l : List Int) : ∀ z ∈ btb l, 0 ≤ z ∧ z ≤ 1 := fun z hz => by
  obtain ⟨x, _, h⟩ := List.mem_flatMap.1 hz
  exact dig_bit x 8 z h
theorem btb_isb (l : List Int) : isb (btb l) = true := (isb_iff _).2 (btb_bit l)
theorem btb_wf (l : List Int) : Wf .i64 (btb l) := Wf.of_i64 fun z hz => by have := btb_bit l z hz; omega
theorem btb_take (l : List Int) {k : Nat} (h : k < l.length) : btb (l.take (k + 1)) = btb (l.take k) ++ dig (l.getD k 0) 8 := by
  rw [List.take_add_one, btb_append, List.getElem?_eq_getElem h, List.getD_eq_getElem?_getD, List.getElem?_eq_getElem h]
  simp [btb]

/-- The bytes of bits, eight each. -/
def bytesOf : Nat → List Int → List Int
  | 0, _ => []
  | n + 1, l => num (l.take 8) :: bytesOf n (l.drop 8)
theorem bytesOf_len : ∀ (n : Nat) (l : List Int), (bytesOf n l).length = n
  | 0, _ => rfl
  | n + 1, l => by rw [bytesOf, List.length_cons, bytesOf_len n]
theorem bytesOf_at : ∀ (n : Nat) (l : List Int) (i : Nat), i < n → (bytesOf n l).getD i 0 = num ((l.drop (8 * i)).take 8)
  | 0, _, _, h => absurd h (by omega)
  | n + 1, l, 0, _ => by simp [bytesOf]
  | n + 1, l, i + 1, h => by
    rw [bytesOf, List.getD_cons_succ, bytesOf_at n _ i (by omega), List.drop_drop]
    congr 3; omega
theorem bytesOf_in : ∀ (n : Nat) {l : List Int}, isb l = true → ∀ z ∈ bytesOf n l, 0 ≤ z ∧ z ≤ 255
  | 0, _, _, z, hz => by cases hz
  | n + 1, l, h, z, hz => by
    rcases List.mem_cons.1 hz with hz | hz
    · have h1 := num_in (isb_all (isb_sub h (m := l.take 8) fun z hz => List.mem_of_mem_take hz))
      have h2 := pow_le (k := (l.take 8).length) (m := 8) (by simp; omega)
      subst hz; omega
    · exact bytesOf_in n (isb_sub h (m := l.drop 8) fun z hz => List.mem_of_mem_drop hz) z hz
theorem bytesOf_succ : ∀ (n : Nat) (l : List Int), bytesOf (n + 1) l = bytesOf n l ++ [num ((l.drop (8 * n)).take 8)]
  | 0, l => by simp [bytesOf]
  | n + 1, l => by
    rw [bytesOf, bytesOf_succ n (l.drop 8), bytesOf, List.cons_append, List.drop_drop, show 8 + 8 * n = 8 * (n + 1) by omega]
/-- BitsToBytes: the bytes and whether there are any. -/
def bb (l : List Int) : List Int × Bool := if isb l = true ∧ l.length % 8 = 0 then (bytesOf (l.length / 8) l, true) else ([], false)
theorem bb_yes {l : List Int} (h : isb l = true) (h8 : l.length % 8 = 0) : bb l = (bytesOf (l.length / 8) l, true) := if_pos ⟨h, h8⟩
theorem bb_no {l : List Int} (h : ¬ (isb l = true ∧ l.length % 8 = 0)) : bb l = ([], false) := if_neg h
theorem bytesOf_btb : ∀ (l : List Int), (∀ z ∈ l, 0 ≤ z ∧ z ≤ 255) → bytesOf l.length (btb l) = l
  | [], _ => rfl
  | x :: l, h => by
    have h1 := h x (List.mem_cons_self ..)
    have e : btb (x :: l) = dig x 8 ++ btb l := rfl
    rw [List.length_cons, bytesOf, e, List.take_append_of_le_length (by rw [dig_len]; omega), List.take_of_length_le (by rw [dig_len]; omega), List.drop_append_of_le_length (by rw [dig_len]; omega),
      List.drop_of_length_le (by rw [dig_len]; omega), List.nil_append, bytesOf_btb l (fun z hz => h z (List.mem_cons_of_mem _ hz)), num_dig]
    congr 1; omega
theorem btb_bytesOf : ∀ (n : Nat) (l : List Int), isb l = true → l.length = 8 * n → btb (bytesOf n l) = l
  | 0, l, _, h => by
    have : l = [] := List.length_eq_zero_iff.1 (by omega)
    subst this; rfl
  | n + 1, l, hb, h => by
    have ih := btb_bytesOf n (l.drop 8) (isb_sub hb fun z hz => List.mem_of_mem_drop hz) (by simp; omega)
    have e : btb (bytesOf (n + 1) l) = dig (num (l.take 8)) 8 ++ btb (bytesOf n (l.drop 8)) := rfl
    have hl : (l.take 8).length = 8 := by simp; omega
    have e2 := dig_num (isb_all (isb_sub hb (m := l.take 8) fun z hz => List.mem_of_mem_take hz))
    rw [hl] at e2
    rw [e, ih, e2, List.take_append_drop]
theorem bb_btb {l : List Int} (h : ∀ z ∈ l, 0 ≤ z ∧ z ≤ 255) : bb (btb l) = (l, true) := by
  rw [bb_yes (btb_isb l) (by rw [btb_len]; omega), btb_len, show 8 * l.length / 8 = l.length by omega, bytesOf_btb l h]
theorem bb_len (l : List Int) : (bb l).1.length ≤ l.length := by
  unfold bb; split
  · rw [bytesOf_len]; omega
  · simp
theorem bb_in (l : List Int) : ∀ z ∈ (bb l).1, 0 ≤ z ∧ z ≤ 255 := by
  unfold bb; split
  · rename_i h; exact bytesOf_in _ h.1
  · intro z hz; cases hz

/-- BitsToInt. -/
def bti (l : List Int) : Int := if isb l = true ∧ l.length ≤ 40 then num l else 0
theorem bti_yes {l : List Int} (h : isb l = true) (h8 : l.length ≤ 40) : bti l = num l := if_pos ⟨h, h8⟩
theorem bti_no {l : List Int} (h : ¬ (isb l = true ∧ l.length ≤ 40)) : bti l = 0 := if_neg h
theorem bti_in (l : List Int) : 0 ≤ bti l ∧ bti l < 1099511627776 := by
  unfold bti; split
  · rename_i h
    have h1 := num_in (isb_all h.1)
    have h2 := pow_le h.2
    omega
  · omega
/-- IntToBits. -/
def itb (n c : Int) : List Int := if 0 ≤ n ∧ (0 ≤ c ∧ c ≤ 40) then dig n c.toNat else []
theorem itb_yes {n c : Int} (h : 0 ≤ n) (h2 : 0 ≤ c ∧ c ≤ 40) : itb n c = dig n c.toNat := if_pos ⟨h, h2⟩
theorem itb_no {n c : Int} (h : ¬ (0 ≤ n ∧ (0 ≤ c ∧ c ≤ 40))) : itb n c = [] := if_neg h
theorem itb_len (n c : Int) : (itb n c).length ≤ 40 := by
  unfold itb; split
  · rw [dig_len]; omega
  · simp
theorem itb_wf (n c : Int) : Wf .i64 (itb n c) := Wf.of_i64 fun z hz => by
  unfold itb at hz; split at hz
  · have := dig_bit _ _ z hz; omega
  · cases hz
theorem bti_itb {n : Int} (h0 : 0 ≤ n) (h : n < 65536) : bti (itb n 16) = n := by
  rw [itb_yes h0 (by omega), bti_yes ((isb_iff _).2 (dig_bit n _)) (by rw [dig_len]; omega), num_dig, show Int.toNat 16 = 16 from rfl]
  omega

/-- Weight. -/
def wt (l : List Int) : Int := (l.countP fun z => z == 1 : Nat)
theorem wt_take (l : List Int) {k : Nat} (h : k < l.length) : wt (l.take (k + 1)) = wt (l.take k) + (if l.getD k 0 = 1 then 1 else 0) := by
  rw [List.take_add_one, List.getElem?_eq_getElem h, List.getD_eq_getElem?_getD, List.getElem?_eq_getElem h]
  simp only [wt, Option.toList, List.countP_append, List.countP_singleton, Option.getD_some, beq_iff_eq]
  split <;> simp
theorem wt_in (l : List Int) : 0 ≤ wt l ∧ wt l ≤ l.length := by
  have := List.countP_le_length (p := fun z => z == (1 : Int)) (l := l)
  unfold wt; omega
/-- The elementwise sum modulo 2. -/
def xorB (a b : List Int) : List Int := List.zipWith (fun x y => bits .and .i64 (bits .xor .i64 x y) 1) a b
theorem xorB_len (a b : List Int) : (xorB a b).length = min a.length b.length := by simp [xorB]
theorem xorB_at (a b : List Int) {k : Nat} (h1 : k < a.length) (h2 : k < b.length) : (xorB a b).getD k 0 = bits .and .i64 (bits .xor .i64 (a.getD k 0) (b.getD k 0)) 1 := by
  simp [xorB, List.getD_eq_getElem?_getD, List.getElem?_zipWith, h1, h2]
/-- At how many indices do two lists differ, as far as both go? -/
def diff : List Int → List Int → Int
  | x :: a, y :: b => (if x = y then 0 else 1) + diff a b
  | _, _ => 0
theorem diff_in : ∀ (a b : List Int), 0 ≤ diff a b ∧ diff a b ≤ a.length
  | [], b => by cases b <;> simp [diff]
  | x :: a, [] => by simp [diff]; omega
  | x :: a, y :: b => by
    have := diff_in a b
    simp only [diff, List.length_cons]; split <;> omega
theorem diff_min : ∀ (a b : List Int), diff a b ≤ (min a.length b.length : Nat)
  | [], b => by simp [diff]
  | x :: a, [] => by simp [diff]
  | x :: a, y :: b => by
    have := diff_min a b
    have e : min (x :: a).length (y :: b).length = min a.length b.length + 1 := by simp only [List.length_cons]; omega
    rw [e, diff]; split <;> omega
theorem diff_take : ∀ (a b : List Int) (k : Nat), k < a.length → k < b.length → diff (a.take (k + 1)) (b.take (k + 1)) = diff (a.take k) (b.take k) + (if a.getD k 0 = b.getD k 0 then 0 else 1)
  | x :: a, y :: b, 0, _, _ => by simp [diff]
  | x :: a, y :: b, k + 1, h1, h2 => by
    have := diff_take a b k (by simpa using h1) (by simpa using h2)
    rw [List.take_succ_cons, List.take_succ_cons, List.take_succ_cons, List.take_succ_cons, diff, diff, List.getD_cons_succ, List.getD_cons_succ]
    omega
  | [], _, _, h, _ => absurd h (by simp)
  | _ :: _, [], _, _, h => absurd h (by simp)
theorem diff_all : ∀ (a b : List Int) (k : Nat), min a.length b.length ≤ k → diff (a.take k) (b.take k) = diff a b
  | [], b, k, _ => by simp [diff]
  | x :: a, [], k, _ => by cases k <;> simp [diff]
  | x :: a, y :: b, 0, h => absurd h (by simp)
  | x :: a, y :: b, k + 1, h => by
    simp only [List.take_succ_cons, diff]
    rw [diff_all a b k (by simp only [List.length_cons] at h; omega)]
/-- HammingDistance. -/
def ham (a b : List Int) : Int := (max a.length b.length : Nat) - (min a.length b.length : Nat) + diff a b
theorem ham_in (a b : List Int) : 0 ≤ ham a b ∧ ham a b ≤ a.length + b.length := by
  have h1 := diff_in a b
  have h2 : max a.length b.length + min a.length b.length = a.length + b.length := by omega
  have h4 : min a.length b.length ≤ max a.length b.length := by omega
  have h3 : diff a b ≤ (min a.length b.length : Nat) := diff_min a b
  unfold ham
  generalize max a.length b.length = p at *
  generalize min a.length b.length = q at *
  omega
theorem bit_xor {x y : Int} (hx : 0 ≤ x ∧ x ≤ 1) (hy : 0 ≤ y ∧ y ≤ 1) : bits .and .i64 (bits .xor .i64 x y) 1 = if x = y then 0 else 1 := by
  have h1 : x = 0 ∨ x = 1 := by omega
  have h2 : y = 0 ∨ y = 1 := by omega
  rcases h1 with rfl | rfl <;> rcases h2 with rfl | rfl <;> decide
theorem wt_xor : ∀ (a b : List Int), (∀ z ∈ a, 0 ≤ z ∧ z ≤ 1) → (∀ z ∈ b, 0 ≤ z ∧ z ≤ 1) → wt (xorB a b) = diff a b
  | [], b, _, _ => by cases b <;> rfl
  | x :: a, [], _, _ => rfl
  | x :: a, y :: b, ha, hb => by
    have ih := wt_xor a b (fun z hz => ha z (List.mem_cons_of_mem _ hz)) (fun z hz => hb z (List.mem_cons_of_mem _ hz))
    have e : wt (xorB (x :: a) (y :: b)) = wt (xorB a b) + (if bits .and .i64 (bits .xor .i64 x y) 1 = 1 then 1 else 0) := by
      simp only [wt, xorB, List.zipWith_cons_cons, List.countP_cons, beq_iff_eq]
      split <;> simp
    rw [e, ih, bit_xor (ha x (List.mem_cons_self ..)) (hb y (List.mem_cons_self ..)), diff]
    split <;> simp <;> omega
theorem xor_xor : ∀ (a b : List Int), (∀ z ∈ a, 0 ≤ z ∧ z ≤ 1) → (∀ z ∈ b, 0 ≤ z ∧ z ≤ 1) → a.length = b.length → xorB (xorB a b) b = a
  | [], b, _, _, _ => by cases b <;> rfl
  | x :: a, [], _, _, h => absurd h (by simp)
  | x :: a, y :: b, ha, hb, h => by
    have ih := xor_xor a b (fun z hz => ha z (List.mem_cons_of_mem _ hz)) (fun z hz => hb z (List.mem_cons_of_mem _ hz)) (by simpa using h)
    have h1 := ha x (List.mem_cons_self ..)
    have h2 := hb y (List.mem_cons_self ..)
    have e : xorB (xorB (x :: a) (y :: b)) (y :: b) = bits .and .i64 (bits .xor .i64 (bits .and .i64 (bits .xor .i64 x y) 1) y) 1 :: xorB (xorB a b) b := rfl
    rw [e, ih, bit_xor h1 h2]
    have h3 : x = 0 ∨ x = 1 := by omega
    have h4 : y = 0 ∨ y = 1 := by omega
    rcases h3 with rfl | rfl <;> rcases h4 with rfl | rfl <;> rfl
end Go.Proofs.Ytejjafmppihneaa.bm
