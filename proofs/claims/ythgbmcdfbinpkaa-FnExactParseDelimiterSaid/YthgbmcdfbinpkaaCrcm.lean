/- The check of bytes as numbers, no program: the register's steps are linear, and a frame in which one or two bits were inverted has another check. Condition: frames of at most eleven bytes for the last. -/
import Derived.Test.YthgbmcdfbinpkaaKit
namespace Go.Proofs.Ythgbmcdfbinpkaa.crcm

/-- The register shifted by one bit. -/
def st (x : Nat) : Nat := if x % 2 = 1 then x / 2 ^^^ 33800 else x / 2
theorem st_lt {x : Nat} (h : x < 65536) : st x < 65536 := by
  unfold st; split
  · exact Nat.xor_lt_two_pow (n := 16) (by omega) (by omega)
  · omega
theorem half_xor (x y : Nat) : (x ^^^ y) / 2 = x / 2 ^^^ y / 2 := by
  have := Nat.shiftRight_xor_distrib (a := x) (b := y) (i := 1)
  simpa [Nat.shiftRight_eq_div_pow] using this
theorem odd_xor (x y : Nat) : (x ^^^ y) % 2 = (x % 2 + y % 2) % 2 := by
  have h := Nat.testBit_xor x y 0
  simp only [Nat.testBit_zero] at h
  rcases Nat.mod_two_eq_zero_or_one x with hx | hx <;> rcases Nat.mod_two_eq_zero_or_one y with hy | hy <;> rcases Nat.mod_two_eq_zero_or_one (x ^^^ y) with hz | hz <;> simp_all
theorem st_xor (x y : Nat) : st (x ^^^ y) = st x ^^^ st y := by
  unfold st
  rw [odd_xor, half_xor]
  rcases Nat.mod_two_eq_zero_or_one x with hx | hx <;> rcases Nat.mod_two_eq_zero_or_one y with hy | hy <;> simp only [hx, hy]
  · simp
  · simp [Nat.xor_assoc]
  · simp only [if_true]
    rw [Nat.xor_assoc, Nat.xor_comm (y / 2), ← Nat.xor_assoc]
    simp
  · simp only [Nat.reduceAdd, Nat.mod_self, if_true]
    rw [if_neg (by omega), Nat.xor_assoc, Nat.xor_comm 33800, Nat.xor_assoc, Nat.xor_self, Nat.xor_zero]
/-- The register shifted n times. -/
def sn : Nat → Nat → Nat
  | 0, x => x
  | n + 1, x => sn n (st x)
theorem sn_succ : ∀ (n x : Nat), sn (n + 1) x = st (sn n x)
  | 0, _ => rfl
  | n + 1, x => by rw [sn, sn_succ n, sn]
theorem sn_lt : ∀ (n : Nat) {x : Nat}, x < 65536 → sn n x < 65536
  | 0, _, h => h
  | n + 1, _, h => sn_lt n (st_lt h)
theorem sn_xor : ∀ (n x y : Nat), sn n (x ^^^ y) = sn n x ^^^ sn n y
  | 0, _, _ => rfl
  | n + 1, x, y => by rw [sn, st_xor, sn_xor n]; rfl
/-- A byte's step. -/
def by8 (r b : Nat) : Nat := sn 8 (r ^^^ b)
/-- The register behind the bytes. -/
def reg (r : Nat) (l : List Int) : Nat := l.foldl (fun r b => by8 r b.toNat) r
theorem reg_nil (r : Nat) : reg r [] = r := rfl
theorem reg_cons (r : Nat) (x : Int) (l : List Int) : reg r (x :: l) = reg (by8 r x.toNat) l := rfl
theorem reg_append (r : Nat) (a b : List Int) : reg r (a ++ b) = reg (reg r a) b := by simp [reg]
theorem reg_take (r : Nat) (l : List Int) {k : Nat} (h : k < l.length) : reg r (l.take (k + 1)) = by8 (reg r (l.take k)) (l.getD k 0).toNat := by
  rw [List.take_add_one, reg_append, List.getElem?_eq_getElem h, List.getD_eq_getElem?_getD, List.getElem?_eq_getElem h]
  simp [reg]
def Byt (l : List Int) : Prop := ∀ z ∈ l, 0 ≤ z ∧ z ≤ 255
theorem by8_lt {r : Nat} {b : Int} (h : r < 65536) (hb : 0 ≤ b ∧ b ≤ 255) : by8 r b.toNat < 65536 := sn_lt 8 (Nat.xor_lt_two_pow (n := 16) h (by omega))
theorem reg_lt : ∀ {r : Nat} {l : List Int}, r < 65536 → Byt l → reg r l < 65536
  | _, [], h, _ => h
  | r, x :: l, h, hb => by
    rw [reg_cons]
    exact reg_lt (by8_lt h (hb x (List.mem_cons_self ..))) fun z hz => hb z (List.mem_cons_of_mem _ hz)
/-- The check. -/
def crc (l : List Int) : Nat := reg 65535 l ^^^ 65535
theorem crc_lt {l : List Int} (h : Byt l) : crc l < 65536 := Nat.xor_lt_two_pow (n := 16) (reg_lt (by omega) h) (by omega)
/-- Another register in front of the bytes. -/
theorem reg_xor : ∀ (l : List Int) (r d : Nat), reg (r ^^^ d) l = reg r l ^^^ sn (8 * l.length) d
  | [], r, d => rfl
  | x :: l, r, d => by
    rw [reg_cons, reg_cons, by8, Nat.xor_assoc, Nat.xor_comm d, ← Nat.xor_assoc, sn_xor, reg_xor l]
    congr 1
/-- A byte changed. -/
theorem reg_set : ∀ (l : List Int) (r k : Nat) (d : Nat) (v : Int), k < l.length → v.toNat = (l.getD k 0).toNat ^^^ d → reg r (l.set k v) = reg r l ^^^ sn (8 * (l.length - k)) d
  | [], _, _, _, _, h, _ => absurd h (by simp)
  | x :: l, r, 0, d, v, _, hv => by
    rw [List.set_cons_zero, reg_cons, reg_cons, hv, List.getD_cons_zero, by8, ← Nat.xor_assoc, sn_xor, reg_xor]
    congr 1
  | x :: l, r, k + 1, d, v, h, hv => by
    rw [List.set_cons_succ, reg_cons, reg_cons, reg_set l _ k d v (by simpa using h) (by simpa using hv), List.length_cons]
    congr 2; first | omega | skip

/-- What a frame's check misses by. -/
def miss (l : List Int) : Nat := crc (l.take (l.length - 2)) ^^^ ((l.getD (l.length - 2) 0).toNat ^^^ ((l.getD (l.length - 1) 0).toNat * 256))
/-- What a bit at q of the byte k places ahead of the last one makes of it. -/
def syn (k q : Nat) : Nat := if k = 0 then 2 ^ q * 256 else if k = 1 then 2 ^ q else sn (8 * (k - 1)) (2 ^ q)
theorem mul_xor (a b : Nat) : (a ^^^ b) * 256 = a * 256 ^^^ b * 256 := by
  have := Nat.shiftLeft_xor_distrib (a := a) (b := b) (i := 8)
  simpa [Nat.shiftLeft_eq] using this
theorem take_set_lt {l : List Int} {n k : Nat} {v : Int} (h : n ≤ k) : (l.set k v).take n = l.take n := by
  rw [List.take_set_of_le h]
theorem miss_set (l : List Int) (k q : Nat) (v : Int) (h2 : 2 ≤ l.length) (hk : k < l.length) (hv : v.toNat = (l.getD k 0).toNat ^^^ 2 ^ q) : miss (l.set k v) = miss l ^^^ syn (l.length - 1 - k) q := by
  have gd : ∀ i, (l.set k v).getD i 0 = if k = i then (if k < l.length then v else 0) else l.getD i 0 := by
    intro i
    rw [List.getD_eq_getElem?_getD, List.getElem?_set, List.getD_eq_getElem?_getD]
    split <;> rename_i h
    · subst h; simp
    · rfl
  unfold miss
  rw [List.length_set, gd, gd, if_pos hk]
  by_cases h1 : k = l.length - 1
  · rw [if_neg (by omega), if_pos h1, take_set_lt (by omega), hv, mul_xor, h1, Nat.sub_self, syn, if_pos rfl]
    simp only [Nat.xor_assoc]
  · by_cases h3 : k = l.length - 2
    · rw [if_pos h3, if_neg h1, take_set_lt (by omega), hv, h3, show l.length - 1 - (l.length - 2) = 1 by omega, syn, if_neg (by omega), if_pos rfl]
      simp only [Nat.xor_assoc, Nat.xor_comm (2 ^ q)]
    · rw [if_neg h3, if_neg h1, show (l.set k v).take (l.length - 2) = (l.take (l.length - 2)).set k v by rw [List.take_set], crc, crc,
        reg_set _ _ k (2 ^ q) v (by rw [List.length_take]; omega) (by rw [hv, List.getD_eq_getElem?_getD, List.getD_eq_getElem?_getD, List.getElem?_take, if_pos (by omega)]),
        List.length_take, Nat.min_eq_left (by omega), syn, if_neg (by omega), if_neg (by omega), show l.length - 1 - k - 1 = l.length - 2 - k by omega]
      simp only [Nat.xor_assoc]
      congr 1
      rw [Nat.xor_comm (sn _ _)]
      simp only [Nat.xor_assoc]
theorem syn_ne : ∀ k, k < 11 → ∀ q, q < 8 → syn k q ≠ 0 := by decide +kernel
theorem syn_diff : ∀ k, k < 11 → ∀ q, q < 8 → ∀ k', k' < 11 → ∀ q', q' < 8 → (syn k q = syn k' q' ↔ k = k' ∧ q = q') := by decide +kernel
theorem xor_zero_iff {a b : Nat} : a ^^^ b = 0 ↔ a = b := by
  constructor
  · intro h
    have : (a ^^^ b) ^^^ b = 0 ^^^ b := by rw [h]
    rwa [Nat.xor_assoc, Nat.xor_self, Nat.xor_zero, Nat.zero_xor] at this
  · rintro rfl; exact Nat.xor_self _
theorem or_xor {a b : Nat} (h : a < 256) : a ^^^ (b * 256) = a + b * 256 := by
  have e := Nat.two_pow_add_eq_or_of_lt (show a < 2 ^ 8 by omega) b
  have : a ^^^ (b * 256) = 2 ^ 8 * b ||| a := by
    apply Nat.eq_of_testBit_eq
    intro i
    rw [Nat.testBit_xor, Nat.testBit_or, Nat.mul_comm b 256, show 256 = 2 ^ 8 from rfl, Nat.testBit_two_pow_mul]
    by_cases hi : 8 ≤ i
    · have : a.testBit i = false := Nat.testBit_lt_two_pow (Nat.lt_of_lt_of_le (show a < 2 ^ 8 by omega) (Nat.pow_le_pow_right (by omega) hi))
      simp [this, hi]
    · simp [hi]
  rw [this, ← e]; omega
end Go.Proofs.Ythgbmcdfbinpkaa.crcm
