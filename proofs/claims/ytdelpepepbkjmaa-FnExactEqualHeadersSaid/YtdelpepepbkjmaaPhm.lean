/- Physical frames as lists of numbers: the header and its three copies, the coded payload, what is received. Condition: none (no program). -/
import Derived.Test.YtdelpepepbkjmaaCrc2
import Derived.Test.YtdelpepepbkjmaaScrm
import Derived.Test.YtdelpepepbkjmaaItm
import Derived.Test.YtdelpepepbkjmaaVitp
namespace Go.Proofs.Ytdelpepepbkjmaa.phm
open Go.RowKit sl bm cvm vit itm scrm crcm crcs
set_option linter.unusedVariables false

/-- A valid header: rate, length, seed. -/
def Hv (r l s : Int) : Prop := (1 ≤ r ∧ r ≤ 2) ∧ (0 ≤ l ∧ l ≤ 120) ∧ (1 ≤ s ∧ s ≤ 127)
instance (r l s : Int) : Decidable (Hv r l s) := inferInstanceAs (Decidable ((1 ≤ r ∧ r ≤ 2) ∧ (0 ≤ l ∧ l ≤ 120) ∧ (1 ≤ s ∧ s ≤ 127)))
def hv (r l s : Int) : Bool := decide (Hv r l s)
theorem hv_yes {r l s : Int} (h : Hv r l s) : hv r l s = true := decide_eq_true h
theorem hv_no {r l s : Int} (h : ¬ Hv r l s) : hv r l s = false := decide_eq_false h
theorem hv_iff (r l s : Int) : hv r l s = true ↔ Hv r l s := by unfold hv; exact decide_eq_true_iff
/-- Its seventeen bits, and the eighteen. -/
def hd17 (r l s : Int) : List Int := dig r 2 ++ (dig l 8 ++ dig s 7)
theorem hd17_len (r l s : Int) : (hd17 r l s).length = 17 := by simp [hd17, dig_len]
theorem hd17_bit (r l s : Int) : ∀ z ∈ hd17 r l s, 0 ≤ z ∧ z ≤ 1 := fun z hz => by
  unfold hd17 at hz
  rcases List.mem_append.1 hz with h | h
  · exact dig_bit _ _ z h
  · rcases List.mem_append.1 h with h | h
    · exact dig_bit _ _ z h
    · exact dig_bit _ _ z h
def hd18 (r l s : Int) : List Int := hd17 r l s ++ [wt (hd17 r l s) % 2]
theorem hd18_len (r l s : Int) : (hd18 r l s).length = 18 := by simp [hd18, hd17_len]
theorem hd18_bit (r l s : Int) : ∀ z ∈ hd18 r l s, 0 ≤ z ∧ z ≤ 1 := fun z hz => by
  unfold hd18 at hz
  rcases List.mem_append.1 hz with h | h
  · exact hd17_bit _ _ _ z h
  · have : z = wt (hd17 r l s) % 2 := by simpa using h
    omega
def enc (r l s : Int) : List Int := if Hv r l s then hd18 r l s ++ (hd18 r l s ++ hd18 r l s) else []
theorem enc_yes {r l s : Int} (h : Hv r l s) : enc r l s = hd18 r l s ++ (hd18 r l s ++ hd18 r l s) := if_pos h
theorem enc_no {r l s : Int} (h : ¬ Hv r l s) : enc r l s = [] := if_neg h
theorem enc_len {r l s : Int} (h : Hv r l s) : (enc r l s).length = 54 := by rw [enc_yes h]; simp [hd18_len]
theorem enc_le (r l s : Int) : (enc r l s).length ≤ 54 := by
  unfold enc; split
  · simp [hd18_len]
  · simp
theorem enc_bit (r l s : Int) : ∀ z ∈ enc r l s, 0 ≤ z ∧ z ≤ 1 := fun z hz => by
  unfold enc at hz
  split at hz
  · rcases List.mem_append.1 hz with h | h
    · exact hd18_bit _ _ _ z h
    · rcases List.mem_append.1 h with h | h
      · exact hd18_bit _ _ _ z h
      · exact hd18_bit _ _ _ z h
  · cases hz
/-- The bits of which most copies are left. -/
def mj (zs : List Int) (i : Nat) : Int := if 2 ≤ wt [zs.getD i 0, zs.getD (i + 18) 0, zs.getD (i + 36) 0] then 1 else 0
theorem mj_in (zs : List Int) (i : Nat) : 0 ≤ mj zs i ∧ mj zs i ≤ 1 := by unfold mj; split <;> omega
def maj (zs : List Int) : List Int := (List.range 18).map (mj zs)
theorem maj_len (zs : List Int) : (maj zs).length = 18 := by simp [maj]
theorem maj_at (zs : List Int) {i : Nat} (h : i < 18) : (maj zs).getD i 0 = mj zs i := by simp [maj, List.getD_eq_getElem?_getD, h]
theorem maj_bit (zs : List Int) : ∀ z ∈ maj zs, 0 ≤ z ∧ z ≤ 1 := fun z hz => by
  obtain ⟨i, _, rfl⟩ := List.mem_map.1 hz
  exact mj_in zs i
theorem maj_isb (zs : List Int) : isb (maj zs) = true := (isb_iff _).2 (maj_bit zs)
/-- The three fields. -/
def fr (b : List Int) : Int := num (b.take 2)
def fl (b : List Int) : Int := num ((b.drop 2).take 8)
def fs (b : List Int) : Int := num ((b.drop 10).take 7)
def Dh (zs : List Int) : Prop := zs.length = 54 ∧ wt (maj zs) % 2 = 0 ∧ Hv (fr (maj zs)) (fl (maj zs)) (fs (maj zs))
noncomputable def dh (zs : List Int) : (Int × Int × Int) × Bool :=
  open Classical in if Dh zs then ((fr (maj zs), fl (maj zs), fs (maj zs)), true) else ((0, 0, 0), false)
theorem dh_yes {zs : List Int} (h : Dh zs) : dh zs = ((fr (maj zs), fl (maj zs), fs (maj zs)), true) := if_pos h
theorem dh_no {zs : List Int} (h : ¬ Dh zs) : dh zs = ((0, 0, 0), false) := if_neg h
theorem dh_cases (zs : List Int) : (∃ r l s, dh zs = ((r, l, s), true) ∧ Hv r l s ∧ zs.length = 54) ∨ dh zs = ((0, 0, 0), false) := by
  by_cases h : Dh zs
  · exact Or.inl ⟨_, _, _, dh_yes h, h.2.2, h.1⟩
  · exact Or.inr (dh_no h)
/-- A header is decoded from its copies. -/
theorem hd18_getD (r l s : Int) {k : Nat} (h : k < 54) : (hd18 r l s ++ (hd18 r l s ++ hd18 r l s)).getD k 0 = (hd18 r l s).getD (k % 18) 0 := by
  have hl := hd18_len r l s
  simp only [List.getD_eq_getElem?_getD]
  rcases Nat.lt_or_ge k 18 with h1 | h1
  · rw [List.getElem?_append_left (by omega), Nat.mod_eq_of_lt h1]
  · rw [List.getElem?_append_right (by omega), hl]
    rcases Nat.lt_or_ge k 36 with h2 | h2
    · rw [List.getElem?_append_left (by omega), show k % 18 = k - 18 by omega]
    · rw [List.getElem?_append_right (by omega), hl, show k % 18 = k - 18 - 18 by omega]
theorem three {x : Int} (h : 0 ≤ x ∧ x ≤ 1) : (if 2 ≤ wt [x, x, x] then (1 : Int) else 0) = x := by
  have : x = 0 ∨ x = 1 := by omega
  rcases this with rfl | rfl <;> decide
theorem list_eq {a b : List Int} {n : Nat} (ha : a.length = n) (hb : b.length = n) (h : ∀ i, i < n → a.getD i 0 = b.getD i 0) : a = b := itm.list_eq ha hb h
theorem getD_in {b : List Int} (h : ∀ z ∈ b, 0 ≤ z ∧ z ≤ 1) (i : Nat) : 0 ≤ b.getD i 0 ∧ b.getD i 0 ≤ 1 := isb_getD ((isb_iff b).2 h) i
theorem maj_hd18 (r l s : Int) : maj (hd18 r l s ++ (hd18 r l s ++ hd18 r l s)) = hd18 r l s := by
  refine list_eq (maj_len _) (hd18_len r l s) fun i hi => ?_
  rw [maj_at _ hi]
  unfold mj
  rw [hd18_getD r l s (by omega), hd18_getD r l s (by omega), hd18_getD r l s (by omega), show (i + 18) % 18 = i % 18 by omega, show (i + 36) % 18 = i % 18 by omega, Nat.mod_eq_of_lt hi]
  exact three (getD_in (hd18_bit r l s) i)
theorem wt_append (a b : List Int) : wt (a ++ b) = wt a + wt b := by simp [wt]
theorem wt_last {x : Int} (h : 0 ≤ x ∧ x ≤ 1) : wt [x] = x := by
  have : x = 0 ∨ x = 1 := by omega
  rcases this with rfl | rfl <;> decide
theorem hd18_even (r l s : Int) : wt (hd18 r l s) % 2 = 0 := by
  unfold hd18
  rw [wt_append, wt_last (by omega)]
  omega
theorem fr_hd18 {r l s : Int} (h : Hv r l s) : fr (hd18 r l s) = r := by
  unfold fr hd18 hd17
  rw [List.append_assoc, List.take_append_of_le_length (by rw [dig_len]; omega), List.take_of_length_le (by rw [dig_len]; omega), num_dig]
  unfold Hv at h; omega
theorem fl_hd18 {r l s : Int} (h : Hv r l s) : fl (hd18 r l s) = l := by
  unfold fl hd18 hd17
  rw [List.append_assoc, List.drop_append_of_le_length (by rw [dig_len]; omega), List.drop_of_length_le (by rw [dig_len]; omega), List.nil_append, List.append_assoc, List.take_append_of_le_length (by rw [dig_len]; omega), List.take_of_length_le (by rw [dig_len]; omega), num_dig]
  unfold Hv at h; omega
theorem fs_hd18 {r l s : Int} (h : Hv r l s) : fs (hd18 r l s) = s := by
  unfold fs hd18 hd17
  have e : (dig r 2 ++ (dig l 8 ++ dig s 7) ++ [wt (dig r 2 ++ (dig l 8 ++ dig s 7)) % 2]).drop 10 = dig s 7 ++ [wt (dig r 2 ++ (dig l 8 ++ dig s 7)) % 2] := by
    rw [← List.append_assoc (dig r 2), List.append_assoc (dig r 2 ++ dig l 8), List.drop_append_of_le_length (by simp [dig_len]), List.drop_of_length_le (by simp [dig_len]), List.nil_append]
  rw [e, List.take_append_of_le_length (by rw [dig_len]; omega), List.take_of_length_le (by rw [dig_len]; omega), num_dig]
  unfold Hv at h; omega
theorem dh_enc {r l s : Int} (h : Hv r l s) : dh (enc r l s) = ((r, l, s), true) := by
  have e : maj (enc r l s) = hd18 r l s := by rw [enc_yes h, maj_hd18]
  have hd : Dh (enc r l s) := ⟨enc_len h, by rw [e]; exact hd18_even r l s, by rw [e, fr_hd18 h, fl_hd18 h, fs_hd18 h]; exact h⟩
  rw [dh_yes hd, e, fr_hd18 h, fl_hd18 h, fs_hd18 h]
/-- One symbol of the copies inverted: the header all the same. -/
theorem two_of_three {x v : Int} (h : 0 ≤ x ∧ x ≤ 1) (hv : v = 1 - x) : (if 2 ≤ wt [v, x, x] then (1 : Int) else 0) = x ∧ (if 2 ≤ wt [x, v, x] then (1 : Int) else 0) = x ∧ (if 2 ≤ wt [x, x, v] then (1 : Int) else 0) = x := by
  have : x = 0 ∨ x = 1 := by omega
  subst hv
  rcases this with rfl | rfl <;> decide
theorem getD_set (L : List Int) (i j : Nat) (v : Int) (hj : j < L.length) : (L.set i v).getD j 0 = if i = j then v else L.getD j 0 := by
  simp only [List.getD_eq_getElem?_getD]
  by_cases h : i = j
  · subst h; rw [if_pos rfl, List.getElem?_set_self hj]; rfl
  · rw [if_neg h, List.getElem?_set_ne h]
theorem maj_one {r l s : Int} {k : Nat} (hk : k < 54) {v : Int} (hv : v = 1 - (hd18 r l s).getD (k % 18) 0) : maj ((hd18 r l s ++ (hd18 r l s ++ hd18 r l s)).set k v) = hd18 r l s := by
  have hl : (hd18 r l s ++ (hd18 r l s ++ hd18 r l s)).length = 54 := by simp [hd18_len]
  refine list_eq (maj_len _) (hd18_len r l s) fun i hi => ?_
  rw [maj_at _ hi]
  unfold mj
  rw [getD_set _ _ _ _ (by omega), getD_set _ _ _ _ (by omega), getD_set _ _ _ _ (by omega), hd18_getD r l s (show i < 54 by omega), hd18_getD r l s (show i + 18 < 54 by omega), hd18_getD r l s (show i + 36 < 54 by omega), show (i + 18) % 18 = i % 18 by omega, show (i + 36) % 18 = i % 18 by omega, Nat.mod_eq_of_lt hi]
  have hb := getD_in (hd18_bit r l s) i
  by_cases h0 : k = i
  · subst h0
    rw [if_pos rfl, if_neg (show ¬ k = k + 18 by omega), if_neg (show ¬ k = k + 36 by omega)]
    exact (two_of_three hb (by rw [hv, Nat.mod_eq_of_lt hi])).1
  · rw [if_neg h0]
    by_cases h1 : k = i + 18
    · rw [if_pos h1, if_neg (show ¬ k = i + 36 by omega)]
      exact (two_of_three hb (by rw [hv, show k % 18 = i by omega])).2.1
    · rw [if_neg h1]
      by_cases h2 : k = i + 36
      · rw [if_pos h2]
        exact (two_of_three hb (by rw [hv, show k % 18 = i by omega])).2.2
      · rw [if_neg h2]; exact three hb
theorem dh_one {r l s : Int} (h : Hv r l s) {k : Nat} (hk : k < 54) {v : Int} (hv : v = 1 - (enc r l s).getD k 0) : dh ((enc r l s).set k v) = ((r, l, s), true) := by
  have e : maj ((enc r l s).set k v) = hd18 r l s := by rw [enc_yes h]; exact maj_one hk (by rw [hv, enc_yes h, hd18_getD r l s hk])
  have hd : Dh ((enc r l s).set k v) := ⟨by rw [List.length_set, enc_len h], by rw [e]; exact hd18_even r l s, by rw [e, fr_hd18 h, fl_hd18 h, fs_hd18 h]; exact h⟩
  rw [dh_yes hd, e, fr_hd18 h, fl_hd18 h, fs_hd18 h]
/-- The numbers of symbols. -/
def cl (l : Int) : Int := enl (8 * (l + 2))
theorem cl_eq {l : Int} (h : 0 ≤ l ∧ l ≤ 120) : cl l = 2 * (8 * (l + 2) + 2) := enl_yes (by omega)
def psy (r l s : Int) : Int := if Hv r l s then (if r = 2 then plen (cl l) else cl l) else 0
theorem psy_no {r l s : Int} (h : ¬ Hv r l s) : psy r l s = 0 := if_neg h
theorem psy_fast {r l s : Int} (h : Hv r l s) (h2 : r = 2) : psy r l s = plen (cl l) := by unfold psy; rw [if_pos h, if_pos h2]
theorem psy_slow {r l s : Int} (h : Hv r l s) (h2 : ¬ r = 2) : psy r l s = cl l := by unfold psy; rw [if_pos h, if_neg h2]
theorem plen_pos {n : Int} (h : 0 ≤ n) : plen n = n - n / 4 := by unfold plen; rw [if_neg (by omega)]
theorem psy_in {r l s : Int} (h : Hv r l s) : 27 ≤ psy r l s ∧ psy r l s ≤ 1956 := by
  have h' := h
  unfold Hv at h'
  by_cases h2 : r = 2
  · rw [psy_fast h h2, plen_pos (by rw [cl_eq (by omega)]; omega), cl_eq (by omega)]; omega
  · rw [psy_slow h h2, cl_eq (by omega)]; omega
def fsy (r l s : Int) : Int := if Hv r l s then 54 + psy r l s else 0
theorem fsy_yes {r l s : Int} (h : Hv r l s) : fsy r l s = 54 + psy r l s := if_pos h
theorem fsy_no {r l s : Int} (h : ¬ Hv r l s) : fsy r l s = 0 := if_neg h
/-- The coded payload. -/
def bits8 (s : Int) (b : List Int) : List Int := scr s (btb (wc b))
def word (s : Int) (b : List Int) : List Int := conv (bits8 s b)
def pun (r : Int) (c : List Int) : List Int := if r = 2 then punc c else c
theorem pun_fast {r : Int} (h : r = 2) (c : List Int) : pun r c = punc c := if_pos h
theorem pun_slow {r : Int} (h : ¬ r = 2) (c : List Int) : pun r c = c := if_neg h
def pay (r s : Int) (b : List Int) : List Int := itl (pun r (word s b)) 8
def tx (r l s : Int) (b : List Int) : List Int := if Hv r l s ∧ (b.length : Int) = l then enc r l s ++ pay r s b else []
theorem tx_yes {r l s : Int} {b : List Int} (h : Hv r l s) (hl : (b.length : Int) = l) : tx r l s b = enc r l s ++ pay r s b := if_pos ⟨h, hl⟩
theorem tx_no {r l s : Int} {b : List Int} (h : ¬ (Hv r l s ∧ (b.length : Int) = l)) : tx r l s b = [] := if_neg h
theorem bits8_isb (s : Int) (b : List Int) : isb (bits8 s b) = true := by
  unfold bits8 scr
  split
  · rename_i h
    exact (isb_iff _).2 (mixed_bit _ _ (isb_all h.2))
  · exact btb_isb _
theorem bits8_len (s : Int) (b : List Int) : (bits8 s b).length = 8 * (b.length + 2) := by rw [bits8, scr_len, btb_len, wc_len]
theorem word_len (s : Int) (b : List Int) : (word s b).length = 2 * (8 * (b.length + 2) + 2) := by rw [word, conv_len_yes (bits8_isb s b), bits8_len]
theorem word_isb (s : Int) (b : List Int) : isb (word s b) = true := conv_isb _
theorem pay_len (r s : Int) (b : List Int) : (pay r s b).length ≤ 2 * (8 * (b.length + 2) + 2) := by
  rw [pay, itl_len]
  unfold pun
  split
  · rw [punc_len, word_len]; omega
  · rw [word_len]; omega
theorem pay_len_yes {r l s : Int} {b : List Int} (h : Hv r l s) (hl : (b.length : Int) = l) : ((pay r s b).length : Int) = psy r l s := by
  rw [pay, itl_len]
  have h' := h
  unfold Hv at h'
  by_cases h2 : r = 2
  · rw [psy_fast h h2, pun_fast h2, punc_len, word_len, plen_pos (by rw [cl_eq (by omega)]; omega), cl_eq (by omega)]; omega
  · rw [psy_slow h h2, pun_slow h2, word_len, cl_eq (by omega)]; omega
theorem tx_len (r l s : Int) (b : List Int) : (tx r l s b).length ≤ 54 + 2 * (8 * (b.length + 2) + 2) := by
  unfold tx
  split
  · rw [List.length_append]
    have h1 := enc_le r l s
    have h2 := pay_len r s b
    omega
  · simp
theorem tx_len_yes {r l s : Int} {b : List Int} (h : Hv r l s) (hl : (b.length : Int) = l) : ((tx r l s b).length : Int) = fsy r l s := by
  rw [tx_yes h hl, List.length_append, enc_len h, fsy_yes h]
  have := pay_len_yes h hl
  omega
/-- What is received of a payload. -/
def undo (r l : Int) (zs : List Int) : List Int := if r = 2 then dep (dei zs 8) (cl l) else dei zs 8
theorem undo_fast {r : Int} (h : r = 2) (l : Int) (zs : List Int) : undo r l zs = dep (dei zs 8) (cl l) := if_pos h
theorem undo_slow {r : Int} (h : ¬ r = 2) (l : Int) (zs : List Int) : undo r l zs = dei zs 8 := if_neg h
def unpay (r l s : Int) (zs : List Int) : List Int × Bool := chk (bb (scr s (vit.vit (undo r l zs)).1)).1
noncomputable def rx (zs : List Int) : (Int × Int × Int) × List Int × Int :=
  if (dh (zs.take 54)).2 = true ∧ (zs.length : Int) = fsy (dh (zs.take 54)).1.1 (dh (zs.take 54)).1.2.1 (dh (zs.take 54)).1.2.2 then
    (if (unpay (dh (zs.take 54)).1.1 (dh (zs.take 54)).1.2.1 (dh (zs.take 54)).1.2.2 (zs.drop 54)).2 = true then ((dh (zs.take 54)).1, (unpay (dh (zs.take 54)).1.1 (dh (zs.take 54)).1.2.1 (dh (zs.take 54)).1.2.2 (zs.drop 54)).1, 0) else ((dh (zs.take 54)).1, [], 2))
  else ((0, 0, 0), [], 1)
theorem rx_bad {zs : List Int} (h : dh (zs.take 54) = ((0, 0, 0), false)) : rx zs = ((0, 0, 0), [], 1) := by unfold rx; rw [if_neg (by rw [h]; simp)]
theorem rx_len {zs : List Int} {r l s : Int} (h : dh (zs.take 54) = ((r, l, s), true)) (hl : ¬ (zs.length : Int) = fsy r l s) : rx zs = ((0, 0, 0), [], 1) := by unfold rx; rw [if_neg (by rw [h]; intro g; exact hl g.2)]
theorem rx_ok {zs : List Int} {r l s : Int} (h : dh (zs.take 54) = ((r, l, s), true)) (hl : (zs.length : Int) = fsy r l s) {p : List Int} (hp : unpay r l s (zs.drop 54) = (p, true)) : rx zs = ((r, l, s), p, 0) := by
  unfold rx; rw [h]; rw [if_pos ⟨rfl, hl⟩]; simp only; rw [hp]; rfl
theorem rx_sum {zs : List Int} {r l s : Int} (h : dh (zs.take 54) = ((r, l, s), true)) (hl : (zs.length : Int) = fsy r l s) {p : List Int} (hp : unpay r l s (zs.drop 54) = (p, false)) : rx zs = ((r, l, s), [], 2) := by
  unfold rx; rw [h]; rw [if_pos ⟨rfl, hl⟩]; simp only; rw [hp]; rfl
theorem vit_len (zs : List Int) : (vit.vit zs).1.length ≤ zs.length := by
  rcases vit_cases zs with ⟨m, hm, hs⟩ | hno
  · rw [vit_yes hm hs]
    simp only [dec_len]
    have := (inl_nat hm).1
    omega
  · rw [vit_no hno]; simp
theorem undo_len (r l : Int) (zs : List Int) : (undo r l zs).length ≤ 4000 + zs.length := by
  unfold undo; split
  · have := dep_len (dei zs 8) (cl l); omega
  · rw [dei_len]; omega
theorem unpay_len (r l s : Int) (zs : List Int) : (unpay r l s zs).1.length ≤ 4000 + zs.length := by
  unfold unpay
  have h1 := chk_len (bb (scr s (vit.vit (undo r l zs)).1)).1
  have h2 := bb_len (scr s (vit.vit (undo r l zs)).1)
  rw [scr_len] at h2
  have h3 := vit_len (undo r l zs)
  have h4 := undo_len r l zs
  omega
theorem rx_le (zs : List Int) : (rx zs).2.1.length ≤ 4000 + zs.length := by
  unfold rx; split
  · split
    · have := unpay_len (dh (zs.take 54)).1.1 (dh (zs.take 54)).1.2.1 (dh (zs.take 54)).1.2.2 (zs.drop 54)
      simp only [List.length_drop] at this ⊢; omega
    · simp
  · simp
/-- Of two paths through the trellis whose symbols agree at the even places. -/
theorem even_eq : ∀ (a b : List Int) (s : Int), (∀ z ∈ a, 0 ≤ z ∧ z ≤ 1) → (∀ z ∈ b, 0 ≤ z ∧ z ≤ 1) → a.length = b.length → (∀ k, k < a.length → (cw s a).getD (2 * k) 0 = (cw s b).getD (2 * k) 0) → a = b
  | [], [], _, _, _, _, _ => rfl
  | [], _ :: _, _, _, _, h, _ => by simp at h
  | _ :: _, [], _, _, _, h, _ => by simp at h
  | x :: a, y :: b, s, ha, hb, hl, h => by
    have hx := ha x (List.mem_cons_self ..)
    have hy := hb y (List.mem_cons_self ..)
    have h0 := h 0 (by simp)
    have e : op1 s x = op1 s y := by simpa [cw] using h0
    have exy : x = y := by unfold op1 at e; omega
    subst exy
    congr 1
    refine even_eq a b (nst s x) (fun z hz => ha z (List.mem_cons_of_mem _ hz)) (fun z hz => hb z (List.mem_cons_of_mem _ hz)) (by simpa using hl) fun k hk => ?_
    have h1 := h (k + 1) (by simpa using hk)
    rw [show 2 * (k + 1) = 2 * k + 2 by omega] at h1
    simpa [cw] using h1
/-- Symbols that are as near as can be. -/
theorem hd_zero : ∀ (a b : List Int), a.length = b.length → hd a b = 0 → ∀ i, i < a.length → b.getD i 0 = a.getD i 0 ∨ b.getD i 0 = 2
  | [], _, _, _, i, h => by simp at h
  | _ :: _, [], h, _, _, _ => by simp at h
  | x :: a, y :: b, hl, h, i, hi => by
    have h1 := sd_in x y
    have h2 := hd_in a b
    simp only [hd] at h
    rcases i with _ | i
    · have : sd x y = 0 := by omega
      unfold sd at this
      by_cases g : y = x ∨ y = 2
      · simpa using g
      · rw [if_neg g] at this; omega
    · have := hd_zero a b (by simpa using hl) (by omega) i (by simpa using hi)
      simpa using this
theorem hd_near : ∀ (a b : List Int), a.length = b.length → (∀ i, i < a.length → b.getD i 0 = a.getD i 0 ∨ b.getD i 0 = 2) → hd a b = 0
  | [], _, _, _ => by simp [hd]
  | _ :: _, [], h, _ => by simp at h
  | x :: a, y :: b, hl, h => by
    have h0 := h 0 (by simp)
    have ih := hd_near a b (by simpa using hl) fun i hi => by simpa using h (i + 1) (by simpa using hi)
    have h0' : y = x ∨ y = 2 := by simpa using h0
    simp only [hd, ih]
    unfold sd; rw [if_pos h0']; rfl
/-- A punctured word is decoded. -/
theorem dec_punc {l zs : List Int} {n : Nat} (hl : isb l = true) (hn : l.length = n) (hz : zs.length = 2 * (n + 2)) (h : ∀ i, i < 2 * (n + 2) → zs.getD i 0 = if i % 4 = 3 then 2 else (conv l).getD i 0) : dec zs n = l := by
  have hc : (conv l).length = 2 * (n + 2) := by rw [conv_len_yes hl, hn]
  have h0 : hd (conv l) zs = 0 := hd_near _ _ (by rw [hc, hz]) fun i hi => by
    rw [h i (by omega)]
    split
    · exact Or.inr rfl
    · exact Or.inl rfl
  have hb := dec_best hz hl hn
  have hh := dec_hd hz
  have hnn := dec_nn hz
  have hd0 : hd (conv (dec zs n)) zs = 0 := by omega
  have hdl : (conv (dec zs n)).length = 2 * (n + 2) := by rw [conv_len_yes (dec_bit hz), dec_len]
  have hagree := hd_zero _ _ (by rw [hdl, hz]) hd0
  rw [hdl] at hagree
  have ht : tail (dec zs n) = tail l := by
    refine even_eq _ _ 0 (isb_all (tail_isb (dec_bit hz))) (isb_all (tail_isb hl)) (by rw [tail_len, tail_len, dec_len, hn]) fun k hk => ?_
    rw [tail_len, dec_len] at hk
    have g1 := hagree (2 * k) (by omega)
    have g2 := h (2 * k) (by omega)
    rw [if_neg (by omega)] at g2
    have hbit := getD_in (conv_bit l) (2 * k)
    rw [conv_yes (dec_bit hz)] at g1
    rw [conv_yes hl] at g2 hbit
    rcases g1 with g1 | g1
    · rw [← g1, g2]
    · omega
  have := congrArg (List.take n) ht
  unfold tail at this
  rwa [List.take_append_of_le_length (by rw [dec_len]; omega), List.take_of_length_le (by rw [dec_len]; omega), List.take_append_of_le_length (by omega), List.take_of_length_le (by omega)] at this
/-- The bytes of a payload come back from its bits. -/
theorem chk_wc (l : List Int) : chk (wc l) = (l, true) := by
  have hf : front (wc l) = l := by rw [front, wc_len, wc, List.take_append_of_le_length (by omega), List.take_of_length_le (by omega)]
  rw [chk_yes (by rw [wc_len]; omega) (by rw [hf]), hf]
theorem wc_byt {l : List Int} (h : Byt l) : Byt (wc l) := fun z hz => by
  have hc := crc_lt h
  unfold wc at hz
  rcases List.mem_append.1 hz with hz | hz
  · exact h z hz
  · rcases List.mem_cons.1 hz with rfl | hz
    · omega
    · have : z = (crc l : Int) / 256 := by simpa using hz
      omega
theorem back_bytes {s : Int} {b : List Int} (hb : Byt b) : chk (bb (scr s (bits8 s b))).1 = (b, true) := by
  unfold bits8
  rw [scr_scr, bb_btb (wc_byt hb), chk_wc]
theorem inl_word {n : Nat} (hn : n ≤ 120) : inl ((2 * (8 * (n + 2) + 2) : Nat) : Int) = ((8 * (n + 2) : Nat) : Int) := by
  rw [show 2 * (8 * (n + 2) + 2) = 2 * ((8 * (n + 2)) + 2) by omega]; exact inl_enc (by omega)
theorem unpay_of {r l s : Int} {b zs U : List Int} (hb : Byt b) (hl : b.length ≤ 120) (hU : undo r l zs = U) (hUl : U.length = 2 * (8 * (b.length + 2) + 2)) (hUs : inr U 0 2 = true) (hd : dec U (8 * (b.length + 2)) = bits8 s b) : unpay r l s zs = (b, true) := by
  unfold unpay
  rw [hU, vit_yes (n := 8 * (b.length + 2)) (by rw [hUl]; exact inl_word hl) hUs]
  simp only
  rw [hd, back_bytes hb]
/-- An undisturbed payload. -/
theorem unpay_pay {r l s : Int} {b : List Int} (h : Hv r l s) (hb : Byt b) (hl : (b.length : Int) = l) : unpay r l s (pay r s b) = (b, true) := by
  have h' := h
  unfold Hv at h'
  have hw := word_len s b
  by_cases h2 : r = 2
  · have hU : undo r l (pay r s b) = dep1 (punc (word s b)) (word s b).length := by
      rw [undo_fast h2, pay, pun_fast h2, dei_itl, ← dep_punc _ (by omega)]
      congr 1
      rw [cl_eq (by omega), hw]; omega
    refine unpay_of hb (by omega) hU (by rw [dep1_len, hw]) ?_ ?_
    · refine inr_of_at fun i hi => ?_
      rw [dep1_len] at hi
      rw [dep1_at _ hi]
      split
      · omega
      · rename_i h3
        rw [punc_at _ hi h3]
        have := isb_getD (word_isb s b) i
        omega
    · refine dec_punc (bits8_isb s b) (bits8_len s b) (by rw [dep1_len, hw]) fun i hi => ?_
      rw [dep1_at _ (by rw [hw]; exact hi)]
      split
      · rfl
      · rename_i h3
        rw [punc_at _ (by rw [hw]; exact hi) h3]; rfl
  · have hU : undo r l (pay r s b) = word s b := by rw [undo_slow h2, pay, pun_slow h2, dei_itl]
    refine unpay_of hb (by omega) hU hw ((inr_iff _ _ _).2 fun z hz => by have := isb_all (word_isb s b) z hz; omega) ?_
    exact (corrects (d := 0) (bits8_isb s b) (bits8_len s b) hw (fun z hz => by have := isb_all (word_isb s b) z hz; omega) (diff_self _) (by omega)).1
theorem rx_tx {r l s : Int} {b : List Int} (h : Hv r l s) (hb : Byt b) (hl : (b.length : Int) = l) : rx (tx r l s b) = ((r, l, s), b, 0) := by
  have hlen := tx_len_yes h hl
  rw [tx_yes h hl] at hlen ⊢
  have he := enc_len h
  refine rx_ok ?_ hlen ?_
  · rw [List.take_append_of_le_length (by omega), List.take_of_length_le (by omega)]; exact dh_enc h
  · rw [List.drop_append_of_le_length (by omega), List.drop_of_length_le (by omega), List.nil_append]; exact unpay_pay h hb hl
theorem rx_short {r l s : Int} {b : List Int} (h : Hv r l s) (hl : (b.length : Int) = l) : rx ((tx r l s b).take 54) = ((0, 0, 0), [], 1) := by
  have he := enc_len h
  have e : (tx r l s b).take 54 = enc r l s := by rw [tx_yes h hl, List.take_append_of_le_length (by omega), List.take_of_length_le (by omega)]
  rw [e]
  refine rx_len (r := r) (l := l) (s := s) ?_ ?_
  · rw [List.take_of_length_le (by omega)]; exact dh_enc h
  · rw [he, fsy_yes h]
    have := psy_in h
    omega
end Go.Proofs.Ytdelpepepbkjmaa.phm
