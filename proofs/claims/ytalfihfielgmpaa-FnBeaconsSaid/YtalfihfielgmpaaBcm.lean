/- Beacons as values, no program: which are valid, their numbers, the encoding and the decoding, that each undoes the other, and the bits of the map. Condition: none. -/
import Derived.Test.YtalfihfielgmpaaInts
namespace Go.Proofs.Ytalfihfielgmpaa.bcm
open Go.RowKit sl enc uvs
set_option linter.unusedVariables false

structure Bc where
  f : Int
  s : Int
  c : Int
  d : Int
  g : Bool
  t : Int
def zero : Bc := ⟨0, 0, 0, 0, false, 0⟩
/-- A station, a slot of a beacon, a period. -/
def St (x : Int) : Prop := 0 ≤ x ∧ x ≤ 15
instance (x : Int) : Decidable (St x) := by unfold St; exact inferInstance
def Sl (x : Int) : Prop := (0 ≤ x ∧ x ≤ 1000000000000) ∧ x % 10 = 0
instance (x : Int) : Decidable (Sl x) := by unfold Sl; exact inferInstance
def Pd (x : Int) : Prop := 1 ≤ x ∧ x ≤ 8
instance (x : Int) : Decidable (Pd x) := by unfold Pd; exact inferInstance
def Ti (x : Int) : Prop := 0 ≤ x ∧ x ≤ 65535
instance (x : Int) : Decidable (Ti x) := by unfold Ti; exact inferInstance
def Ct (c d : Int) : Prop := 0 ≤ c ∧ c ≤ d - 1
instance (c d : Int) : Decidable (Ct c d) := by unfold Ct; exact inferInstance
def Gr (g : Bool) (c : Int) : Prop := g = true → c = 0
instance (g : Bool) (c : Int) : Decidable (Gr g c) := by unfold Gr; exact inferInstance
def Vb (x : Bc) : Prop := St x.f ∧ Sl x.s ∧ Pd x.d ∧ Ct x.c x.d ∧ Ti x.t ∧ Gr x.g x.c
instance (x : Bc) : Decidable (Vb x) := by unfold Vb; exact inferInstance
def vb (x : Bc) : Bool := decide (Vb x)
theorem vb_eq {f s c d : Int} {g : Bool} {t : Int} {t1 t2 t3 t4 t5 t6 : Bool} (h1 : decide (St f) = t1) (h2 : decide (Sl s) = t2) (h3 : decide (Pd d) = t3) (h4 : decide (Ct c d) = t4) (h5 : decide (Ti t) = t5) (h6 : decide (Gr g c) = t6) : vb ⟨f, s, c, d, g, t⟩ = (t1 && (t2 && (t3 && (t4 && (t5 && t6))))) := by
  subst h1 h2 h3 h4 h5 h6
  rw [Bool.eq_iff_iff]
  unfold vb Vb
  simp only [Bool.and_eq_true, decide_eq_true_iff]
  exact decide_eq_true_iff
def fl (g : Bool) : Int := if g = true then 1 else 0
theorem fl_in (g : Bool) : 0 ≤ fl g ∧ fl g ≤ 1 := by cases g <;> decide
def nums (x : Bc) : List Int := [x.f, x.s, x.c, x.d, fl x.g, x.t]
/-- EncodeBeacon. -/
def eb (x : Bc) : List Int := if Vb x then encs (nums x) else []
theorem eb_yes {x : Bc} (h : Vb x) : eb x = encs (nums x) := if_pos h
theorem eb_no {x : Bc} (h : ¬ Vb x) : eb x = [] := if_neg h
theorem eb_len (x : Bc) : (eb x).length ≤ 36 := by
  by_cases h : Vb x
  · rw [eb_yes h]
    have h1 := encs_len_all (nums x)
    have h2 : (nums x).length = 6 := rfl
    omega
  · rw [eb_no h]; simp

/-- The varints of a list, one behind the other. -/
def flat : List Int → List Int
  | [] => []
  | x :: l => enc x.toNat ++ flat l
def Goo (l : List Int) : Prop := ∀ x ∈ l, 0 ≤ x ∧ x ≤ 1000000000000
def Byt (l : List Int) : Prop := ∀ z ∈ l, 0 ≤ z ∧ z ≤ 255
theorem fold_flat : ∀ (l b : List Int), Goo l → l.foldl uv b = b ++ flat l
  | [], b, _ => by simp [flat]
  | x :: l, b, h => by
    rw [List.foldl_cons, uv_in (h x (List.mem_cons_self ..)), fold_flat l _ (fun y hy => h y (List.mem_cons_of_mem _ hy)), flat, List.append_assoc]
theorem encs_flat {l : List Int} (h : Goo l) : encs l = flat l := by unfold encs; rw [fold_flat l [] h]; rfl
theorem flat_byt : ∀ (l : List Int), Byt (flat l)
  | [] => fun z hz => by simp [flat] at hz
  | x :: l => fun z hz => by
    rcases List.mem_append.1 hz with hz | hz
    · exact enc_wf _ z hz
    · exact flat_byt l z hz
theorem dvs_flat : ∀ (l : List Int) (c : Nat) (b r acc : List Int), Goo l → dvs (l.length + c) (b ++ (flat l ++ r)) b.length acc = dvs c (b ++ (flat l ++ r)) ((b.length : Int) + ((flat l).length : Int)) (acc ++ l)
  | [], c, b, r, acc, _ => by simp [flat]
  | x :: l, c, b, r, acc, h => by
    have hx := rv_enc b (flat l ++ r) x (h x (List.mem_cons_self ..))
    rw [List.length_cons, show l.length + 1 + c = (l.length + c) + 1 by omega, flat, List.append_assoc, dvs_yes hx]
    have ih := dvs_flat l c (b ++ enc x.toNat) r (acc ++ [x]) (fun y hy => h y (List.mem_cons_of_mem _ hy))
    rw [List.append_assoc, List.append_assoc] at ih
    have e : ((b ++ enc x.toNat).length : Int) = (b.length : Int) + ((enc x.toNat).length : Int) := by simp
    rw [e] at ih
    rw [ih]
    simp [List.length_append, Int.add_assoc]
/-- Six numbers and what lies behind them. -/
theorem dv_six {l : List Int} (h : Goo l) (h6 : l.length = 6) (r : List Int) : dv (flat l ++ r) 0 6 = (l, ((flat l).length : Int), true) := by
  have e6 : (6 : Int) = ((6 : Nat) : Int) := rfl
  rw [e6, dv_in (by omega)]
  have := dvs_flat l 0 [] r [] h
  simp only [Nat.add_zero, List.nil_append, List.length_nil, h6] at this
  have e : ((0 : Nat) : Int) = 0 := rfl
  rw [e] at this
  rw [this, dvs_zero]; simp
/-- What numbers that were decoded say. -/
theorem dvs_ok : ∀ (c : Nat) (zs : List Int) (off : Int) (acc l : List Int) (i : Int), Byt zs → 0 ≤ off → off ≤ zs.length → dvs c zs off acc = (l, i, true) →
    ∃ ms, l = acc ++ ms ∧ ms.length = c ∧ Goo ms ∧ off ≤ i ∧ i ≤ zs.length ∧ zs.drop off.toNat = flat ms ++ zs.drop i.toNat := by
  intro c
  induction c with
  | zero =>
    intro zs off acc l i hb h0 h1 h
    rw [dvs_zero] at h
    injection h with e1 h; injection h with e2 _
    subst e1 e2
    exact ⟨[], by simp, rfl, fun x hx => by simp at hx, by omega, h1, by simp [flat]⟩
  | succ c ih =>
    intro zs off acc l i hb h0 h1 h
    obtain ⟨m, nx, ok, ht⟩ : ∃ m nx ok, rv zs off = (m, nx, ok) := ⟨_, _, _, rfl⟩
    cases ok with
    | false => rw [dvs_no ht] at h; injection h with _ h; injection h with _ h; cases h
    | true =>
      rw [dvs_yes ht] at h
      obtain ⟨g1, g2, g3, g4, g5, g6⟩ := rv_ok hb ht
      obtain ⟨ms, e1, e2, e3, e4, e5, e6⟩ := ih zs nx _ l i hb (by omega) g3 h
      refine ⟨m :: ms, by rw [e1]; simp, by rw [List.length_cons, e2], fun x hx => ?_, by omega, e5, ?_⟩
      · rcases List.mem_cons.1 hx with rfl | hx
        · exact ⟨g4, g5⟩
        · exact e3 x hx
      · rw [flat, List.append_assoc, ← e6, g6]
        have : zs.drop nx.toNat = (zs.drop off.toNat).drop (nx - off).toNat := by
          rw [List.drop_drop]; congr 1; omega
        rw [this, List.take_append_drop]
theorem dv_ok {zs l : List Int} {i : Int} (hb : Byt zs) (h : dv zs 0 6 = (l, i, true)) : l.length = 6 ∧ Goo l ∧ 0 ≤ i ∧ i ≤ zs.length ∧ zs = flat l ++ zs.drop i.toNat := by
  have e6 : (6 : Int) = ((6 : Nat) : Int) := rfl
  rw [e6, dv_in (by omega)] at h
  obtain ⟨ms, e1, e2, e3, e4, e5, e6⟩ := dvs_ok 6 zs 0 [] l i hb (by omega) (by omega) h
  have e1 : l = ms := by simpa using e1
  subst e1
  exact ⟨e2, e3, e4, e5, by simpa using e6⟩
theorem dv_nil : dv [] 0 6 = ([], 0, false) := by
  have e6 : (6 : Int) = ((6 : Nat) : Int) := rfl
  have hr : enc.rv [] 0 = (0, 0, false) := enc.rv_out (by simp)
  rw [e6, dv_in (by simp), dvs_no hr]
theorem nums_good {x : Bc} (h : Vb x) : Goo (nums x) := by
  obtain ⟨h1, h2, h3, h4, h5, h6⟩ := h
  unfold St at h1; unfold Sl at h2; unfold Pd at h3; unfold Ct at h4; unfold Ti at h5
  have h7 := fl_in x.g
  intro y hy
  simp only [nums, List.mem_cons, List.not_mem_nil, or_false] at hy
  omega
theorem nums_wf {x : Bc} (h : Vb x) : Wf .i64 (nums x) := Wf.of_i64 fun z hz => by have := nums_good h z hz; omega
/-- The beacon of six numbers. -/
def bcOf (l : List Int) : Bc := ⟨l.getD 0 0, l.getD 1 0, l.getD 2 0, l.getD 3 0, decide (l.getD 4 0 = 1), l.getD 5 0⟩
theorem six {l : List Int} (h : l.length = 6) : ∃ a b c d e f, l = [a, b, c, d, e, f] := by
  match l, h with
  | [a, b, c, d, e, f], _ => exact ⟨a, b, c, d, e, f, rfl⟩
theorem nums_bcOf {l : List Int} (h : l.length = 6) (h0 : 0 ≤ l.getD 4 0) (h1 : l.getD 4 0 ≤ 1) : nums (bcOf l) = l := by
  obtain ⟨a, b, c, d, e, f, rfl⟩ := six h
  have h0 : 0 ≤ e := h0
  have h1 : e ≤ 1 := h1
  have : e = 0 ∨ e = 1 := by omega
  rcases this with rfl | rfl <;> rfl
theorem bcOf_nums (x : Bc) : bcOf (nums x) = x := by
  obtain ⟨f, s, c, d, g, t⟩ := x
  cases g <;> rfl
/-- DecodeBeacon. -/
def db (zs : List Int) : Bc × Bool :=
  if (dv zs 0 6).2.2 = true ∧ (dv zs 0 6).2.1 = (zs.length : Int) ∧ (dv zs 0 6).1.getD 4 0 ≤ 1 ∧ Vb (bcOf (dv zs 0 6).1) then (bcOf (dv zs 0 6).1, true) else (zero, false)
theorem db_yes {zs l : List Int} {i : Int} (h2 : dv zs 0 6 = (l, i, true)) (hi : i = (zs.length : Int)) (h3 : l.getD 4 0 ≤ 1) (h4 : Vb (bcOf l)) : db zs = (bcOf l, true) := by
  unfold db; rw [h2]; exact if_pos ⟨rfl, hi, h3, h4⟩
theorem db_dv {zs l : List Int} {i : Int} (h2 : dv zs 0 6 = (l, i, false)) : db zs = (zero, false) := by
  unfold db; rw [h2]; exact if_neg (by simp)
theorem db_no_ {zs l : List Int} {i : Int} {b : Bool} (h2 : dv zs 0 6 = (l, i, b)) (h : ¬ (i = (zs.length : Int) ∧ l.getD 4 0 ≤ 1 ∧ Vb (bcOf l))) : db zs = (zero, false) := by
  unfold db; rw [h2]; exact if_neg fun g => h g.2
/-- The program's own question is the specification's. -/
theorem same_ask {zs l : List Int} {i : Int} (hb : Byt zs) (h2 : dv zs 0 6 = (l, i, true)) : eb (bcOf l) = zs ↔ i = (zs.length : Int) ∧ l.getD 4 0 ≤ 1 ∧ Vb (bcOf l) := by
  obtain ⟨g1, g2, g3, g4, g5⟩ := dv_ok hb h2
  have h05 : 0 ≤ l.getD 4 0 := by
    have : l.getD 4 0 ∈ l := by rw [List.getD_eq_getElem?_getD, List.getElem?_eq_getElem (by omega)]; exact List.getElem_mem _
    exact (g2 _ this).1
  constructor
  · intro h
    by_cases hv : Vb (bcOf l)
    · rw [eb_yes hv, encs_flat (nums_good hv)] at h
      have h6 := dv_six (nums_good hv) rfl []
      rw [List.append_nil, h] at h6
      rw [h6] at h2
      injection h2 with e1 h2
      injection h2 with e2 _
      refine ⟨e2.symm, ?_, hv⟩
      rw [← e1]
      exact (fl_in _).2
    · rw [eb_no hv] at h
      subst h
      rw [dv_nil] at h2
      injection h2 with _ h2
      injection h2 with _ h2
      cases h2
  · rintro ⟨hi, h3, hv⟩
    rw [eb_yes hv, nums_bcOf g1 h05 h3, encs_flat g2]
    subst hi
    rw [Int.toNat_natCast, List.drop_length, List.append_nil] at g5
    exact g5.symm
theorem db_eb {x : Bc} (h : Vb x) : db (eb x) = (x, true) := by
  have hg := nums_good h
  have h2 := dv_six hg rfl []
  rw [List.append_nil] at h2
  rw [eb_yes h, encs_flat hg]
  have := db_yes h2 rfl (fl_in x.g).2 (by rw [bcOf_nums]; exact h)
  rwa [bcOf_nums] at this
theorem db_nil : db [] = (zero, false) := db_dv dv_nil
theorem db_ok {zs : List Int} (hb : Byt zs) {x : Bc} (h : db zs = (x, true)) : Vb x ∧ eb x = zs := by
  obtain ⟨l, i, b, h2⟩ : ∃ l i b, dv zs 0 6 = (l, i, b) := ⟨_, _, _, rfl⟩
  cases b with
  | false => rw [db_dv h2] at h; injection h with _ h; cases h
  | true =>
    by_cases h3 : i = (zs.length : Int) ∧ l.getD 4 0 ≤ 1 ∧ Vb (bcOf l)
    · rw [db_yes h2 h3.1 h3.2.1 h3.2.2] at h
      injection h with h _
      subst h
      exact ⟨h3.2.2, (same_ask hb h2).2 h3⟩
    · rw [db_no_ h2 h3] at h; injection h with _ h; cases h
theorem db_no {zs : List Int} {x : Bc} (h : db zs = (x, false)) : x = zero := by
  unfold db at h
  split at h
  · injection h with _ h; cases h
  · injection h with h _; exact h.symm
theorem eb_byt (x : Bc) : Byt (eb x) := by
  by_cases h : Vb x
  · rw [eb_yes h, encs_flat (nums_good h)]; exact flat_byt _
  · rw [eb_no h]; intro z hz; cases hz

/- The map. -/
def bv (t : Int) : BitVec 64 := BitVec.ofInt 64 t
def iv (v : BitVec 64) : Int := IntKind.i64.wrap (v.toNat : Int)
theorem iv_toInt (v : BitVec 64) : iv v = v.toInt := by
  have := v.isLt
  unfold iv
  rw [IntKind.wrap_i64, BitVec.toInt_eq_toNat_bmod, Int.bmod_def]
  split <;> omega
theorem bv_iv (v : BitVec 64) : bv (iv v) = v := by rw [iv_toInt]; exact BitVec.ofInt_toInt
theorem bits_or (x y : Int) : bits .or .i64 x y = iv (bv x ||| bv y) := rfl
theorem bits_an (x y : Int) : bits .andNot .i64 x y = iv (bv x &&& ~~~ bv y) := rfl
def tb (t : Int) (k : Nat) : Bool := t / 2 ^ k % 2 == 1
theorem tb_bit (t : Int) {k : Nat} (hk : k < 64) : (bv t).getLsbD k = tb t k := by
  have h1 : (bv t).getLsbD k = (bv t).toNat.testBit k := rfl
  have hp : (2 : Nat) ^ k ∣ 2 ^ 64 := Nat.pow_dvd_pow 2 (by omega)
  have hp2 : (2 : Nat) ^ (k + 1) ∣ 2 ^ 64 := Nat.pow_dvd_pow 2 (by omega)
  have h2 : ((bv t).toNat : Int) = t % ((2 ^ 64 : Nat) : Int) := by
    unfold bv
    rw [BitVec.toNat_ofInt, Int.toNat_of_nonneg (Int.emod_nonneg _ (by decide))]
  rw [h1, Nat.testBit_eq_decide_div_mod_eq]
  unfold tb
  rw [Bool.eq_iff_iff, decide_eq_true_eq, beq_iff_eq]
  have h7 : ((2 ^ k : Nat) : Int) = 2 ^ k := by simp
  have h3 : (((bv t).toNat / 2 ^ k % 2 : Nat) : Int) = t / 2 ^ k % 2 := by
    rw [Int.natCast_emod, Int.natCast_ediv, h2, ← h7]
    obtain ⟨q, hq⟩ := hp2
    have e1 : ((2 ^ 64 : Nat) : Int) = ((2 ^ k : Nat) : Int) * (2 * (q : Int)) := by
      rw [hq, Nat.pow_succ]; push_cast; rw [Int.mul_assoc]
    have hpos : (0 : Int) < ((2 ^ k : Nat) : Int) := by have := Nat.two_pow_pos k; omega
    have e2 := Int.emod_add_mul_ediv t ((2 ^ 64 : Nat) : Int)
    generalize hr : t % ((2 ^ 64 : Nat) : Int) = r at e2 ⊢
    generalize t / ((2 ^ 64 : Nat) : Int) = m at e2
    rw [e1] at e2
    generalize ((2 ^ k : Nat) : Int) = p at e2 hpos ⊢
    rw [← e2, Int.mul_assoc, Int.add_mul_ediv_left _ _ (by omega), Int.mul_assoc, Int.add_mul_emod_self_left]
    rfl
  omega
theorem low1 (n : Int) : bits .and .i64 n 1 = n % 2 := by
  have h := @bits_or
  show IntKind.i64.wrap ((BitVec.ofInt 64 n &&& BitVec.ofInt 64 1).toNat : Int) = _
  have h1 : (BitVec.ofInt 64 n &&& BitVec.ofInt 64 1).toNat = (n % ((2 ^ 64 : Nat) : Int)).toNat % 2 ^ 1 := by
    rw [BitVec.toNat_and, BitVec.toNat_ofInt, show (BitVec.ofInt 64 1).toNat = 2 ^ 1 - 1 from rfl, Nat.and_two_pow_sub_one_eq_mod]
  rw [h1, IntKind.wrap_i64]
  omega
theorem bv_pow {k : Nat} (hk : k < 62) : bv (2 ^ k) = BitVec.twoPow 64 k := by
  have h7 : ((2 ^ k : Nat) : Int) = 2 ^ k := by simp
  have h2 : (2 : Nat) ^ k < 2 ^ 62 := Nat.pow_lt_pow_right (by omega) hk
  apply BitVec.eq_of_toNat_eq
  unfold bv
  rw [← h7, BitVec.ofInt_natCast, BitVec.toNat_ofNat, BitVec.toNat_twoPow]
theorem wrap_pow {k : Nat} (hk : k < 62) : wrap64 (2 ^ k) = 2 ^ k := by
  have h7 : ((2 ^ k : Nat) : Int) = 2 ^ k := by simp
  have h2 : (2 : Nat) ^ k < 2 ^ 62 := Nat.pow_lt_pow_right (by omega) hk
  rw [← h7]
  generalize 2 ^ k = p at h2
  unfold wrap64
  omega
/-- The map with a station's bit set or cleared. -/
def sb (t : Int) (k : Nat) (v : Bool) : Int := if v = true then bits .or .i64 t (2 ^ k) else bits .andNot .i64 t (2 ^ k)
/-- SetTim. -/
def stm (x : Bc) (k : Int) (v : Bool) : Bc := if St k then ⟨x.f, x.s, x.c, x.d, x.g, sb x.t k.toNat v⟩ else x
/-- TimContains. -/
def tc (x : Bc) (k : Int) : Bool := decide (St k) && tb x.t k.toNat
/-- What the announcement with one station changed says. -/
def an (t : Int) (k : Nat) (v : Bool) (i : Nat) : Bool := if i = k then v else tb t i
/-- The map as it is written, the first i stations. -/
def acc (t : Int) (k : Nat) (v : Bool) : Nat → Int
  | 0 => bits .andNot .i64 t 65535
  | i + 1 => if an t k v i = true then bits .or .i64 (acc t k v i) (2 ^ i) else acc t k v i
theorem acc_yes {t : Int} {k : Nat} {v : Bool} {i : Nat} (h : an t k v i = true) : acc t k v (i + 1) = bits .or .i64 (acc t k v i) (2 ^ i) := if_pos h
theorem acc_no {t : Int} {k : Nat} {v : Bool} {i : Nat} (h : an t k v i = false) : acc t k v (i + 1) = acc t k v i := if_neg (by simp [h])
theorem low16 (j : Nat) (hj : j < 64) : (bv 65535).getLsbD j = decide (j < 16) := by
  have : bv 65535 = BitVec.ofNat 64 (2 ^ 16 - 1) := rfl
  rw [this, BitVec.getLsbD_ofNat, Nat.testBit_two_pow_sub_one]
  simp [hj]
theorem acc_bit (t : Int) (k : Nat) (v : Bool) : ∀ i, i ≤ 16 → ∀ j, j < 64 → (bv (acc t k v i)).getLsbD j = if j < 16 then (decide (j < i) && an t k v j) else tb t j
  | 0, _, j, hj => by
    show (bv (bits .andNot .i64 t 65535)).getLsbD j = _
    rw [bits_an, bv_iv, BitVec.getLsbD_and, BitVec.getLsbD_not, low16 j hj, tb_bit t hj]
    by_cases h : j < 16 <;> simp [h, hj]
  | i + 1, hi, j, hj => by
    have ih := acc_bit t k v i (by omega) j hj
    cases ha : an t k v i with
    | true =>
      rw [acc_yes ha, bits_or, bv_iv, BitVec.getLsbD_or, ih, bv_pow (by omega), BitVec.getLsbD_twoPow]
      by_cases hij : i = j
      · subst hij
        have : i < 16 := by omega
        simp [this, hj, ha]
      · have e : decide (j < i + 1) = decide (j < i) := by rw [decide_eq_decide]; omega
        rw [e]; simp [hij]
    | false =>
      rw [acc_no ha, ih]
      by_cases hij : i = j
      · subst hij
        simp [ha]
      · have e : decide (j < i + 1) = decide (j < i) := by rw [decide_eq_decide]; omega
        rw [e]
theorem sb_bit (t : Int) {k : Nat} (hk : k < 16) (v : Bool) {j : Nat} (hj : j < 64) : (bv (sb t k v)).getLsbD j = if j = k then v else tb t j := by
  unfold sb
  cases v with
  | true =>
    rw [if_pos rfl, bits_or, bv_iv, BitVec.getLsbD_or, bv_pow (by omega), BitVec.getLsbD_twoPow, tb_bit t hj]
    by_cases h : j = k
    · subst h; simp [hj]
    · have : ¬ k = j := fun e => h e.symm
      simp [h, this]
  | false =>
    rw [if_neg (by decide), bits_an, bv_iv, BitVec.getLsbD_and, BitVec.getLsbD_not, bv_pow (by omega), BitVec.getLsbD_twoPow, tb_bit t hj]
    by_cases h : j = k
    · subst h; simp [hj]
    · have : ¬ k = j := fun e => h e.symm
      simp [h, this, hj]
theorem iv_inj {x y : Int} (hx : ∃ u, x = iv u) (hy : ∃ u, y = iv u) (h : bv x = bv y) : x = y := by
  obtain ⟨u, rfl⟩ := hx
  obtain ⟨v, rfl⟩ := hy
  rw [bv_iv, bv_iv] at h
  rw [h]
theorem acc_iv (t : Int) (k : Nat) (v : Bool) : ∀ i, ∃ u, acc t k v i = iv u
  | 0 => ⟨_, rfl⟩
  | i + 1 => by
    cases ha : an t k v i with
    | true => rw [acc_yes ha]; exact ⟨_, rfl⟩
    | false => rw [acc_no ha]; exact acc_iv t k v i
theorem sb_iv (t : Int) (k : Nat) (v : Bool) : ∃ u, sb t k v = iv u := by
  unfold sb
  split
  · exact ⟨_, rfl⟩
  · exact ⟨_, rfl⟩
theorem acc_sb (t : Int) {k : Nat} (hk : k < 16) (v : Bool) : acc t k v 16 = sb t k v := by
  refine iv_inj (acc_iv t k v 16) (sb_iv t k v) (BitVec.eq_of_getLsbD_eq fun j hj => ?_)
  rw [acc_bit t k v 16 (Nat.le_refl _) j hj, sb_bit t hk v hj]
  unfold an
  by_cases h : j < 16
  · simp [h]
  · have : ¬ j = k := by omega
    simp [h, this]
theorem tb_sb (t : Int) {k : Nat} (hk : k < 16) (v : Bool) {j : Nat} (hj : j < 64) : tb (sb t k v) j = if j = k then v else tb t j := by
  rw [← tb_bit _ hj, sb_bit t hk v hj]

/-- NextBeaconSlot, DtimCountAt, NextDelivery. -/
def nbs (n : Int) : Int := if n < 0 then 0 else if 1000000000000 < n then -1 else (n / 10 + 1) * 10
def dca (s p : Int) : Int := if Sl s ∧ Pd p then (-(s / 10)) % p else -1
def nd (x : Bc) : Int := if Vb x then x.s + x.c * 10 else -1
theorem dca_ok {s p : Int} (hs : Sl s) (hp : Pd p) : dca s p = (-(s / 10)) % p ∧ 0 ≤ dca s p ∧ dca s p ≤ p - 1 := by
  have h : dca s p = (-(s / 10)) % p := if_pos ⟨hs, hp⟩
  unfold Pd at hp
  have h1 := Int.emod_nonneg (-(s / 10)) (show p ≠ 0 by omega)
  have h2 := Int.emod_lt_of_pos (-(s / 10)) (show 0 < p by omega)
  omega
end Go.Proofs.Ytalfihfielgmpaa.bcm
