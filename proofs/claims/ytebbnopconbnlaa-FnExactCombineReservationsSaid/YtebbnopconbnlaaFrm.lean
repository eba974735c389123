/- Medium access frames as values, no program: which are valid, their numbers, the encoding and the decoding, that each undoes the other, and that a frame with one bit inverted is rejected. Condition: none. -/
import Derived.Test.YtebbnopconbnlaaInts
import Derived.Test.YtebbnopconbnlaaCrc2
namespace Go.Proofs.Ytebbnopconbnlaa.frm
open Go.RowKit sl enc uvs crcm crcs
set_option linter.unusedVariables false

structure Fm where
  k : Int
  f : Int
  t : Int
  s : Int
  g : Int
  m : Bool
  r : Bool
  d : Int
  z : List Int
def zero : Fm := ⟨0, 0, 0, 0, 0, false, false, 0, []⟩
/-- Kinds that carry nothing. -/
def Ctl (k : Int) : Prop := k = 2 ∨ k = 3 ∨ k = 4 ∨ k = 7
instance (k : Int) : Decidable (Ctl k) := by unfold Ctl; exact inferInstance
def To (k f t : Int) : Prop := ((0 ≤ t ∧ t ≤ 15) ∧ ¬ t = f) ∨ (t = 63 ∧ ¬ Ctl k)
instance (k f t : Int) : Decidable (To k f t) := by unfold To; exact inferInstance
def Nr (s g d : Int) : Prop := (0 ≤ s ∧ s ≤ 4095) ∧ (0 ≤ g ∧ g ≤ 15) ∧ (0 ≤ d ∧ d ≤ 1000)
instance (s g d : Int) : Decidable (Nr s g d) := by unfold Nr; exact inferInstance
def Bd (k : Int) (n : Nat) : Prop := n ≤ 100 ∧ (n = 0 ∨ ¬ Ctl k)
instance (k : Int) (n : Nat) : Decidable (Bd k n) := by unfold Bd; exact inferInstance
def Vf (x : Fm) : Prop := (1 ≤ x.k ∧ x.k ≤ 7) ∧ (0 ≤ x.f ∧ x.f ≤ 15) ∧ To x.k x.f x.t ∧ Nr x.s x.g x.d ∧ Bd x.k x.z.length
instance (x : Fm) : Decidable (Vf x) := by unfold Vf; exact inferInstance
def fl (m r : Bool) : Int := (if m = true then 1 else 0) + (if r = true then 2 else 0)
theorem fl_in (m r : Bool) : 0 ≤ fl m r ∧ fl m r ≤ 3 := by cases m <;> cases r <;> decide
def nums (x : Fm) : List Int := [x.k, x.f, x.t, x.s, x.g, fl x.m x.r, x.d]
/-- EncodeFrame. -/
def ef (x : Fm) : List Int := if Vf x then wc (encs (nums x) ++ x.z) else []
theorem ef_yes {x : Fm} (h : Vf x) : ef x = wc (encs (nums x) ++ x.z) := if_pos h
theorem ef_no {x : Fm} (h : ¬ Vf x) : ef x = [] := if_neg h
theorem ef_len (x : Fm) : (ef x).length ≤ 144 := by
  by_cases h : Vf x
  · rw [ef_yes h, wc_len, List.length_append]
    have h1 := encs_len_all (nums x)
    have h2 : (nums x).length = 7 := rfl
    have h3 := h.2.2.2.2.1
    omega
  · rw [ef_no h]; simp

/-- The varints of a list, one behind the other. -/
def flat : List Int → List Int
  | [] => []
  | x :: l => enc x.toNat ++ flat l
def Goo (l : List Int) : Prop := ∀ x ∈ l, 0 ≤ x ∧ x ≤ 1000000000000
theorem fold_flat : ∀ (l b : List Int), Goo l → l.foldl uv b = b ++ flat l
  | [], b, _ => by simp [flat]
  | x :: l, b, h => by
    rw [List.foldl_cons, uv_in (h x (List.mem_cons_self ..)), fold_flat l _ (fun y hy => h y (List.mem_cons_of_mem _ hy)), flat, List.append_assoc]
theorem encs_flat {l : List Int} (h : Goo l) : encs l = flat l := by unfold encs; rw [fold_flat l [] h]; rfl
theorem flat_byt : ∀ (l : List Int), Byt (flat l)
  | [] => fun z hz => by simp [flat] at hz
  | x :: l => fun z hz => by
    rcases List.mem_append.1 hz with hz | hz
    · exact enc_wf _ z hz
    · exact flat_byt l z hz
theorem dvs_flat : ∀ (l : List Int) (c : Nat) (b r acc : List Int), Goo l → dvs (l.length + c) (b ++ (flat l ++ r)) b.length acc = dvs c (b ++ (flat l ++ r)) ((b.length : Int) + ((flat l).length : Int)) (acc ++ l)
  | [], c, b, r, acc, _ => by simp [flat]
  | x :: l, c, b, r, acc, h => by
    have hx := rv_enc b (flat l ++ r) x (h x (List.mem_cons_self ..))
    rw [List.length_cons, show l.length + 1 + c = (l.length + c) + 1 by omega, flat, List.append_assoc, dvs_yes hx]
    have ih := dvs_flat l c (b ++ enc x.toNat) r (acc ++ [x]) (fun y hy => h y (List.mem_cons_of_mem _ hy))
    rw [List.append_assoc, List.append_assoc] at ih
    have e : ((b ++ enc x.toNat).length : Int) = (b.length : Int) + ((enc x.toNat).length : Int) := by simp
    rw [e] at ih
    rw [ih]
    simp [List.length_append, Int.add_assoc]
/-- Seven numbers and what lies behind them. -/
theorem dv_seven {l : List Int} (h : Goo l) (h7 : l.length = 7) (r : List Int) : dv (flat l ++ r) 0 7 = (l, ((flat l).length : Int), true) := by
  have e7 : (7 : Int) = ((7 : Nat) : Int) := rfl
  rw [e7, dv_in (by omega)]
  have := dvs_flat l 0 [] r [] h
  simp only [Nat.add_zero, List.nil_append, List.length_nil, h7] at this
  have e : ((0 : Nat) : Int) = 0 := rfl
  rw [e] at this
  rw [this, dvs_zero]; simp
/-- What numbers that were decoded say. -/
theorem dvs_ok : ∀ (c : Nat) (zs : List Int) (off : Int) (acc l : List Int) (i : Int), Byt zs → 0 ≤ off → off ≤ zs.length → dvs c zs off acc = (l, i, true) →
    ∃ ms, l = acc ++ ms ∧ ms.length = c ∧ Goo ms ∧ off ≤ i ∧ i ≤ zs.length ∧ zs.drop off.toNat = flat ms ++ zs.drop i.toNat := by
  intro c
  induction c with
  | zero =>
    intro zs off acc l i hb h0 h1 h
    rw [dvs_zero] at h
    injection h with e1 h; injection h with e2 _
    subst e1 e2
    exact ⟨[], by simp, rfl, fun x hx => by simp at hx, by omega, h1, by simp [flat]⟩
  | succ c ih =>
    intro zs off acc l i hb h0 h1 h
    obtain ⟨m, nx, ok, ht⟩ : ∃ m nx ok, rv zs off = (m, nx, ok) := ⟨_, _, _, rfl⟩
    cases ok with
    | false => rw [dvs_no ht] at h; injection h with _ h; injection h with _ h; cases h
    | true =>
      rw [dvs_yes ht] at h
      obtain ⟨g1, g2, g3, g4, g5, g6⟩ := rv_ok hb ht
      obtain ⟨ms, e1, e2, e3, e4, e5, e6⟩ := ih zs nx _ l i hb (by omega) g3 h
      refine ⟨m :: ms, by rw [e1]; simp, by rw [List.length_cons, e2], fun x hx => ?_, by omega, e5, ?_⟩
      · rcases List.mem_cons.1 hx with rfl | hx
        · exact ⟨g4, g5⟩
        · exact e3 x hx
      · rw [flat, List.append_assoc, ← e6, g6]
        have : zs.drop nx.toNat = (zs.drop off.toNat).drop (nx - off).toNat := by
          rw [List.drop_drop]; congr 1; omega
        rw [this, List.take_append_drop]
theorem dv_ok {zs l : List Int} {i : Int} (hb : Byt zs) (h : dv zs 0 7 = (l, i, true)) : l.length = 7 ∧ Goo l ∧ 0 ≤ i ∧ i ≤ zs.length ∧ zs = flat l ++ zs.drop i.toNat := by
  have e7 : (7 : Int) = ((7 : Nat) : Int) := rfl
  rw [e7, dv_in (by omega)] at h
  obtain ⟨ms, e1, e2, e3, e4, e5, e6⟩ := dvs_ok 7 zs 0 [] l i hb (by omega) (by omega) h
  have e1 : l = ms := by simpa using e1
  subst e1
  exact ⟨e2, e3, e4, e5, by simpa using e6⟩
theorem flat_inj {l l' r : List Int} (h : Goo l) (h' : Goo l') (h7 : l.length = 7) (h7' : l'.length = 7) (e : flat l ++ r = flat l' ++ r) : l = l' := by
  have h1 := dv_seven h h7 r
  rw [e, dv_seven h' h7' r] at h1
  injection h1 with h1 _
  exact h1.symm
theorem nums_good {x : Fm} (h : Vf x) : Goo (nums x) := by
  obtain ⟨h1, h2, h3, ⟨h4, h5, h6⟩, _⟩ := h
  have h7 := fl_in x.m x.r
  have h8 : 0 ≤ x.t ∧ x.t ≤ 63 := by rcases h3 with ⟨h, _⟩ | ⟨h, _⟩ <;> omega
  intro y hy
  simp only [nums, List.mem_cons, List.not_mem_nil, or_false] at hy
  omega

theorem byt_at {l : List Int} (h : Byt l) (i : Nat) : 0 ≤ l.getD i 0 ∧ l.getD i 0 ≤ 255 := by
  rw [List.getD_eq_getElem?_getD]
  rcases Nat.lt_or_ge i l.length with hi | hi
  · rw [List.getElem?_eq_getElem hi]; exact h _ (List.getElem_mem hi)
  · rw [List.getElem?_eq_none hi]; simp
theorem byt_set {l : List Int} (h : Byt l) (i : Nat) {v : Int} (hv : 0 ≤ v ∧ v ≤ 255) : Byt (l.set i v) := fun z hz => by
  rcases List.mem_or_eq_of_mem_set hz with hz | hz
  · exact h z hz
  · rw [hz]; exact hv
theorem good_iff {l : List Int} (h2 : 2 ≤ l.length) (hb : Byt l) : wc (front l) = l ↔ miss l = 0 := by
  obtain ⟨n, hn⟩ : ∃ n, l.length = n + 2 := ⟨l.length - 2, by omega⟩
  rw [wc_iff hn hb, miss, xor_zero_iff, hn, show n + 2 - 2 = n by omega, show n + 2 - 1 = n + 1 by omega]
  have h1 := byt_at hb n
  have h3 := byt_at hb (n + 1)
  rw [or_xor (by omega)]
  omega
theorem front_wc (l : List Int) : front (wc l) = l := by
  rw [front, wc_len, wc, show l.length + 2 - 2 = l.length by omega, List.take_left]
theorem wc_byt {l : List Int} (h : Byt l) : Byt (wc l) := fun z hz => by
  have := crc_lt h
  rcases List.mem_append.1 hz with hz | hz
  · exact h z hz
  · simp only [List.mem_cons, List.not_mem_nil, or_false] at hz
    omega
theorem wc_inj {l l' : List Int} (h : wc l = wc l') : l = l' := by rw [← front_wc l, h, front_wc]
theorem chk_wc (l : List Int) : chk (wc l) = (l, true) := by
  have := chk_yes (l := wc l) (by rw [wc_len]; omega) (by rw [front_wc])
  rwa [front_wc] at this
theorem miss_wc {l : List Int} (h : Byt l) : miss (wc l) = 0 := (good_iff (by rw [wc_len]; omega) (wc_byt h)).1 (by rw [front_wc])
theorem chk_bad {l : List Int} (h2 : 2 ≤ l.length) (hb : Byt l) (h : miss l ≠ 0) : chk l = ([], false) := chk_no fun g => h ((good_iff h2 hb).1 g.2)
theorem chk_ok {zs ys : List Int} (h : chk zs = (ys, true)) : zs = wc ys := by
  unfold chk at h
  split at h
  · rename_i g; injection h with h _; rw [← h]; exact g.2.symm
  · injection h with _ h; cases h
theorem chk_nok {zs ys : List Int} (h : chk zs = (ys, false)) : ys = [] := by
  unfold chk at h
  split at h
  · injection h with _ h; cases h
  · injection h with h _; exact h.symm

/-- The frame of numbers and a body. -/
def frOf (l z : List Int) : Fm := ⟨l.getD 0 0, l.getD 1 0, l.getD 2 0, l.getD 3 0, l.getD 4 0, decide (l.getD 5 0 % 2 = 1), decide (l.getD 5 0 / 2 % 2 = 1), l.getD 6 0, z⟩
theorem seven {l : List Int} (h : l.length = 7) : ∃ a b c d e f g, l = [a, b, c, d, e, f, g] := by
  match l, h with
  | [a, b, c, d, e, f, g], _ => exact ⟨a, b, c, d, e, f, g, rfl⟩
theorem fl_of {y : Int} (h0 : 0 ≤ y) (h3 : y ≤ 3) : fl (decide (y % 2 = 1)) (decide (y / 2 % 2 = 1)) = y := by
  have : y = 0 ∨ y = 1 ∨ y = 2 ∨ y = 3 := by omega
  rcases this with rfl | rfl | rfl | rfl <;> decide
theorem nums_frOf {l : List Int} (h : l.length = 7) (h0 : 0 ≤ l.getD 5 0) (h3 : l.getD 5 0 ≤ 3) (z : List Int) : nums (frOf l z) = l := by
  obtain ⟨a, b, c, d, e, f, g, rfl⟩ := seven h
  have := fl_of (y := f) h0 h3
  simp only [nums, frOf, List.getD_cons_zero, List.getD_cons_succ, this]
theorem frOf_nums (x : Fm) : frOf (nums x) x.z = x := by
  obtain ⟨k, f, t, s, g, m, r, d, z⟩ := x
  cases m <;> cases r <;> rfl
/-- DecodeFrame. -/
def df (zs : List Int) : Fm × Bool :=
  if (chk zs).2 = true ∧ (dv (chk zs).1 0 7).2.2 = true ∧ (dv (chk zs).1 0 7).1.getD 5 0 ≤ 3 ∧ Vf (frOf (dv (chk zs).1 0 7).1 ((chk zs).1.drop (dv (chk zs).1 0 7).2.1.toNat))
  then (frOf (dv (chk zs).1 0 7).1 ((chk zs).1.drop (dv (chk zs).1 0 7).2.1.toNat), true) else (zero, false)
theorem df_yes {zs ys l : List Int} {i : Int} (h1 : chk zs = (ys, true)) (h2 : dv ys 0 7 = (l, i, true)) (h3 : l.getD 5 0 ≤ 3) (h4 : Vf (frOf l (ys.drop i.toNat))) : df zs = (frOf l (ys.drop i.toNat), true) := by
  unfold df; rw [h1]; simp only; rw [h2]; exact if_pos ⟨by simp, by simp, h3, h4⟩
theorem df_chk {zs ys : List Int} (h1 : chk zs = (ys, false)) : df zs = (zero, false) := by
  unfold df; rw [h1]; exact if_neg (by simp)
theorem df_dv {zs ys l : List Int} {i : Int} {b : Bool} (h1 : chk zs = (ys, b)) (h2 : dv ys 0 7 = (l, i, false)) : df zs = (zero, false) := by
  unfold df; rw [h1]; simp only; rw [h2]; exact if_neg (by simp)
theorem df_flag {zs ys l : List Int} {i : Int} {b c : Bool} (h1 : chk zs = (ys, b)) (h2 : dv ys 0 7 = (l, i, c)) (h3 : ¬ l.getD 5 0 ≤ 3) : df zs = (zero, false) := by
  unfold df; rw [h1]; simp only; rw [h2]; exact if_neg fun h => h3 h.2.2.1
theorem df_vf {zs ys l : List Int} {i : Int} {b c : Bool} (h1 : chk zs = (ys, b)) (h2 : dv ys 0 7 = (l, i, c)) (h4 : ¬ Vf (frOf l (ys.drop i.toNat))) : df zs = (zero, false) := by
  unfold df; rw [h1]; simp only; rw [h2]; exact if_neg fun h => h4 h.2.2.2
/-- The program's own question is the specification's. -/
theorem same_ask {zs ys l : List Int} {i : Int} (hb : Byt zs) (h1 : chk zs = (ys, true)) (h2 : dv ys 0 7 = (l, i, true)) : ef (frOf l (ys.drop i.toNat)) = zs ↔ l.getD 5 0 ≤ 3 ∧ Vf (frOf l (ys.drop i.toNat)) := by
  have hw := chk_ok h1
  have hby : Byt ys := fun z hz => hb z (by rw [hw]; exact List.mem_append_left _ hz)
  obtain ⟨g1, g2, g3, g4, g5⟩ := dv_ok hby h2
  have h05 : 0 ≤ l.getD 5 0 := by
    have : l.getD 5 0 ∈ l := by rw [List.getD_eq_getElem?_getD, List.getElem?_eq_getElem (by omega)]; exact List.getElem_mem _
    exact (g2 _ this).1
  constructor
  · intro h
    by_cases hv : Vf (frOf l (ys.drop i.toNat))
    · refine ⟨?_, hv⟩
      rw [ef_yes hv, hw, encs_flat (nums_good hv)] at h
      have h := wc_inj h
      have h' : flat (nums (frOf l (ys.drop i.toNat))) ++ ys.drop i.toNat = flat l ++ ys.drop i.toNat := h.trans g5
      have e := flat_inj (nums_good hv) g2 rfl g1 h'
      have e5 := congrArg (fun l => l.getD 5 0) e
      have := fl_in (frOf l (ys.drop i.toNat)).m (frOf l (ys.drop i.toNat)).r
      have e5 : fl (frOf l (ys.drop i.toNat)).m (frOf l (ys.drop i.toNat)).r = l.getD 5 0 := e5
      omega
    · rw [ef_no hv] at h
      have := congrArg List.length h
      rw [hw, wc_len] at this
      simp at this
  · rintro ⟨h3, hv⟩
    rw [ef_yes hv, nums_frOf g1 h05 h3, encs_flat g2, hw]
    show wc (flat l ++ ys.drop i.toNat) = wc ys
    rw [← g5]
theorem df_ef {x : Fm} (h : Vf x) : df (ef x) = (x, true) := by
  have hg := nums_good h
  have h1 : chk (ef x) = (flat (nums x) ++ x.z, true) := by rw [ef_yes h, encs_flat hg, chk_wc]
  have h2 := dv_seven hg rfl x.z
  have e : (flat (nums x) ++ x.z).drop ((flat (nums x)).length : Int).toNat = x.z := by rw [Int.toNat_natCast, List.drop_left]
  have e2 : frOf (nums x) ((flat (nums x) ++ x.z).drop ((flat (nums x)).length : Int).toNat) = x := by rw [e, frOf_nums]
  have := df_yes h1 h2 (fl_in x.m x.r).2 (by rw [e2]; exact h)
  rwa [e2] at this
theorem df_nil : df [] = (zero, false) := df_chk (ys := []) (chk_no (by simp))
theorem df_ok {zs : List Int} (hb : Byt zs) {x : Fm} (h : df zs = (x, true)) : Vf x ∧ ef x = zs := by
  obtain ⟨ys, c, h1⟩ : ∃ ys c, chk zs = (ys, c) := ⟨_, _, rfl⟩
  obtain ⟨l, i, b, h2⟩ : ∃ l i b, dv ys 0 7 = (l, i, b) := ⟨_, _, _, rfl⟩
  cases c with
  | false => rw [df_chk h1] at h; injection h with _ h; cases h
  | true =>
    cases b with
    | false => rw [df_dv h1 h2] at h; injection h with _ h; cases h
    | true =>
      by_cases h3 : l.getD 5 0 ≤ 3
      · by_cases h4 : Vf (frOf l (ys.drop i.toNat))
        · rw [df_yes h1 h2 h3 h4] at h
          injection h with h _
          subst h
          exact ⟨h4, (same_ask hb h1 h2).2 ⟨h3, h4⟩⟩
        · rw [df_vf h1 h2 h4] at h; injection h with _ h; cases h
      · rw [df_flag h1 h2 h3] at h; injection h with _ h; cases h
theorem df_no {zs : List Int} {x : Fm} (h : df zs = (x, false)) : x = zero := by
  unfold df at h
  split at h
  · injection h with _ h; cases h
  · injection h with h _; exact h.symm
theorem df_len {zs : List Int} {x : Fm} {b : Bool} (h : df zs = (x, b)) : x.z.length ≤ 100 := by
  unfold df at h
  split at h
  · rename_i g; injection h with h _; rw [← h]; exact g.2.2.2.2.2.2.2.1
  · injection h with h _; rw [← h]; simp [zero]
theorem ef_byt {x : Fm} (hz : Byt x.z) : Byt (ef x) := by
  by_cases h : Vf x
  · rw [ef_yes h, encs_flat (nums_good h)]
    refine wc_byt fun z hz' => ?_
    rcases List.mem_append.1 hz' with h1 | h1
    · exact flat_byt _ z h1
    · exact hz z h1
  · rw [ef_no h]; intro z hz; cases hz
/-- A byte with one bit inverted. -/
def inv (x : Int) (q : Nat) : Int := ((x.toNat ^^^ 2 ^ q : Nat) : Int)
theorem inv_in {x : Int} (h : 0 ≤ x ∧ x ≤ 255) {q : Nat} (hq : q < 8) : 0 ≤ inv x q ∧ inv x q ≤ 255 := by
  have h1 : 2 ^ q < 2 ^ 8 := Nat.pow_lt_pow_right (by omega) hq
  have h2 : x.toNat ^^^ 2 ^ q < 2 ^ 8 := Nat.xor_lt_two_pow (by omega) h1
  unfold inv; omega
theorem st_pos {x : Nat} (h : x < 65536) (h0 : x ≠ 0) : st x ≠ 0 := by
  unfold st
  split
  · intro e
    have := xor_zero_iff.1 e
    omega
  · omega
theorem sn_pos : ∀ (n : Nat) {x : Nat}, x < 65536 → x ≠ 0 → sn n x ≠ 0
  | 0, _, _, h0 => h0
  | n + 1, _, h, h0 => sn_pos n (st_lt h) (st_pos h h0)
theorem syn_pos (k : Nat) {q : Nat} (hq : q < 8) : syn k q ≠ 0 := by
  have h1 : 0 < 2 ^ q := Nat.pow_pos (by omega)
  have h2 : 2 ^ q < 2 ^ 8 := Nat.pow_lt_pow_right (by omega) hq
  unfold syn
  split
  · omega
  · split
    · omega
    · exact sn_pos _ (by omega) (by omega)
/-- A frame in which one bit was inverted is rejected. -/
theorem df_bit {x : Fm} (h : Vf x) (hz : Byt x.z) {j q : Nat} (hj : j < (ef x).length) (hq : q < 8) : df ((ef x).set j (inv ((ef x).getD j 0) q)) = (zero, false) := by
  have hb := ef_byt hz
  have hm : miss (ef x) = 0 := by
    rw [ef_yes h]
    refine miss_wc fun z hz' => ?_
    rcases List.mem_append.1 hz' with h1 | h1
    · rw [encs_flat (nums_good h)] at h1; exact flat_byt _ z h1
    · exact hz z h1
  have h2 : 2 ≤ (ef x).length := by rw [ef_yes h, wc_len]; omega
  have e := miss_set (ef x) j q (inv ((ef x).getD j 0) q) h2 hj (by rw [inv, Int.toNat_natCast])
  rw [hm, Nat.zero_xor] at e
  exact df_chk (chk_bad (by rw [List.length_set]; exact h2) (byt_set hb j (inv_in (byt_at hb j) hq)) (by rw [e]; exact syn_pos _ hq))
/-- ReplyKind. -/
def Ack (k t : Int) : Prop := (k = 1 ∨ k = 6) ∧ ¬ t = 63
instance (k t : Int) : Decidable (Ack k t) := by unfold Ack; exact inferInstance
def rk (k t : Int) : Int := if Ack k t ∨ k = 7 then 2 else if k = 3 then 4 else 0
/-- ReplyTo. -/
def rt (x : Fm) : Fm × Bool := if Vf x ∧ ¬ rk x.k x.t = 0 then (⟨rk x.k x.t, x.t, x.f, x.s, x.g, false, false, if 0 < x.d - 1 then x.d - 1 else 0, []⟩, true) else (zero, false)
theorem rt_yes {x : Fm} (h : Vf x) (h2 : ¬ rk x.k x.t = 0) : rt x = (⟨rk x.k x.t, x.t, x.f, x.s, x.g, false, false, if 0 < x.d - 1 then x.d - 1 else 0, []⟩, true) := if_pos ⟨h, h2⟩
theorem rt_no {x : Fm} (h : ¬ (Vf x ∧ ¬ rk x.k x.t = 0)) : rt x = (zero, false) := if_neg h
end Go.Proofs.Ytebbnopconbnlaa.frm
