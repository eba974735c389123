/- Reorder buffers as data: the window as a list of places, what is delivered, what is missing. Condition: none. -/
import Derived.Test.YtejjafmppihneaaUs22
import Derived.Test.YtejjafmppihneaaBsm
namespace Go.Proofs.Ytejjafmppihneaa.ro
open ux (Nf Rob)
open bs (nsq sqd)
set_option linter.unusedVariables false
set_option linter.unusedSimpArgs false

/-- What lies at the places of a window. -/
abbrev Win := List (Option (List Int))
def pend : Int → Win → List Nf
  | _, [] => []
  | s, none :: r => pend (s + 1) r
  | s, some b :: r => ⟨s % 4096, b⟩ :: pend (s + 1) r
def bods (ws : Win) : List (List Int) := ws.filterMap id
def rdy : Win → Nat
  | some _ :: r => rdy r + 1
  | _ => 0
def miss : Int → Win → List Int
  | _, [] => []
  | s, o :: r => if (o :: r).all (·.isNone) then [] else (if o.isNone then [s % 4096] else []) ++ miss (s + 1) r
/-- A window that is being changed. -/
structure St where
  s : Int
  ws : Win
  out : List (List Int)
def advS (t : St) (n : Nat) : St := ⟨(t.s + (n : Int)) % 4096, t.ws.drop n ++ List.replicate (min n t.ws.length) none, t.out ++ bods (t.ws.take n)⟩
def runS (t : St) : St := advS t (rdy t.ws)
def kp (ws : Win) (d : Nat) (b : List Int) : Win := if ws[d]? = some none then ws.set d (some b) else ws
def fill (s : Int) (ws : Win) (xs : List Nf) : Win := xs.foldl (fun ws f => kp ws (sqd s f.Seq).toNat f.Body) ws
def none16 : Win := List.replicate 16 none
def okp (s : Int) : Int → List Nf → Bool
  | _, [] => true
  | p, f :: r => decide (p + 1 ≤ sqd s f.Seq ∧ sqd s f.Seq ≤ 15) && decide (f.Body.length ≤ 100) && okp s (sqd s f.Seq) r
def vr (r : Rob) : Bool := okp r.Start 0 r.Pending && decide (0 ≤ r.Start ∧ r.Start ≤ 4095)
def start (r : Rob) : St := ⟨r.Start, fill r.Start none16 r.Pending, []⟩
def buf (t : St) : Rob := ⟨t.s, pend t.s t.ws⟩
def may (r : Rob) (n : Int) : Bool := vr r && decide (0 ≤ sqd r.Start n ∧ sqd r.Start n ≤ 2047)
def rcvT (t : St) (d : Nat) (b : List Int) : St := runS ⟨(advS t (d - 15)).s, kp (advS t (d - 15)).ws (d - (d - 15)) b, (advS t (d - 15)).out⟩
def recv (r : Rob) (n : Int) (b : List Int) : Rob × List (List Int) :=
  if (may r n && decide (b.length ≤ 100)) = true then (buf (rcvT (start r) (sqd r.Start n).toNat b), (rcvT (start r) (sqd r.Start n).toNat b).out) else (r, [])
def mvT (t : St) (d : Nat) : St := runS (advS t d)
def mvs (r : Rob) (n : Int) : Rob × List (List Int) :=
  if may r n = true then (buf (mvT (start r) (sqd r.Start n).toNat), (mvT (start r) (sqd r.Start n).toNat).out) else (r, [])
def bm (s : Int) (xs : List Nf) : Nat := xs.foldl (fun a f => a ||| 2 ^ (sqd s f.Seq).toNat) 0
def ack (r : Rob) : Int × Int := if vr r = true then (r.Start, (bm r.Start r.Pending : Int)) else (0, 0)
def msn (r : Rob) : List Int := if vr r = true then miss r.Start (start r).ws else []
def new (n : Int) : Rob := if 0 ≤ n ∧ n ≤ 4095 then ⟨n, []⟩ else ⟨0, []⟩

theorem pend_append : ∀ (a b : Win) (s : Int), pend s (a ++ b) = pend s a ++ pend (s + (a.length : Int)) b
  | [], b, s => by simp [pend]
  | none :: a, b, s => by
    have e : s + 1 + (a.length : Int) = s + ((none :: a : Win).length : Int) := by simp; omega
    rw [List.cons_append, pend, pend, pend_append a b, e]
  | some x :: a, b, s => by
    have e : s + 1 + (a.length : Int) = s + ((some x :: a : Win).length : Int) := by simp; omega
    rw [List.cons_append, pend, pend, pend_append a b, e, List.cons_append]
theorem pend_mod : ∀ (a : Win) (s t : Int), s % 4096 = t % 4096 → pend s a = pend t a
  | [], s, t, h => rfl
  | none :: a, s, t, h => by rw [pend, pend]; exact pend_mod a _ _ (by omega)
  | some x :: a, s, t, h => by rw [pend, pend, h, pend_mod a (s + 1) (t + 1) (by omega)]
theorem pend_none : ∀ (a : Win) (s : Int), (∀ o ∈ a, o = none) → pend s a = []
  | [], s, h => rfl
  | o :: a, s, h => by
    obtain rfl := h o List.mem_cons_self
    rw [pend]
    exact pend_none a _ fun o ho => h o (List.mem_cons_of_mem _ ho)
theorem pend_rep (a : Win) (n : Nat) (s : Int) : pend s (a ++ List.replicate n none) = pend s a := by
  rw [pend_append, pend_none (List.replicate n none) _ (fun o ho => List.eq_of_mem_replicate ho), List.append_nil]
theorem pend_none_of : ∀ (a : Win) (s : Int), pend s a = [] → ∀ o ∈ a, o = none
  | [], s, h => fun _ h => by cases h
  | none :: a, s, h => fun o ho => by
    rw [pend] at h
    rcases List.mem_cons.1 ho with rfl | ho
    · rfl
    · exact pend_none_of a _ h o ho
  | some x :: a, s, h => by rw [pend] at h; cases h
theorem bods_append (a b : Win) : bods (a ++ b) = bods a ++ bods b := by simp [bods]
theorem pend_bods : ∀ (a : Win) (s : Int), (pend s a).map (·.Body) = bods a
  | [], s => rfl
  | none :: a, s => by rw [pend, pend_bods a]; rfl
  | some x :: a, s => by rw [pend, List.map_cons, pend_bods a]; rfl
theorem bods_len (a : Win) : (bods a).length ≤ a.length := List.length_filterMap_le _ _
theorem pend_len (a : Win) (s : Int) : (pend s a).length ≤ a.length := by
  have h := congrArg List.length (pend_bods a s)
  rw [List.length_map] at h
  have := bods_len a
  omega
theorem mem_pend : ∀ {a : Win} {s : Int} {x : Nf}, x ∈ pend s a → ∃ i, i < a.length ∧ x.Seq = (s + (i : Int)) % 4096 ∧ a[i]? = some (some x.Body)
  | none :: a, s, x, h => by
    rw [pend] at h
    obtain ⟨i, h1, h2, h3⟩ := mem_pend h
    exact ⟨i + 1, by simp; omega, by rw [h2]; congr 1; push_cast; omega, by simpa using h3⟩
  | some b :: a, s, x, h => by
    rw [pend] at h
    rcases List.mem_cons.1 h with rfl | h
    · exact ⟨0, by simp, by simp, rfl⟩
    · obtain ⟨i, h1, h2, h3⟩ := mem_pend h
      exact ⟨i + 1, by simp; omega, by rw [h2]; congr 1; push_cast; omega, by simpa using h3⟩
theorem sqd_at {s : Int} {i : Nat} (hs : 0 ≤ s ∧ s ≤ 4095) (hi : i < 4096) : sqd s ((s + (i : Int)) % 4096) = (i : Int) := by
  rw [bs.sqd_in hs (by omega)]; omega
theorem at_sqd {s n : Int} (h : 0 ≤ sqd s n) : n = (s + sqd s n) % 4096 := by
  obtain ⟨h1, h2⟩ := bs.sqd_nn h
  rw [bs.sqd_in h1 h2]; omega
/-- Where the elements before a place end. -/
theorem pend_cut {a : Win} {s : Int} (hs : 0 ≤ s ∧ s ≤ 4095) (ha : a.length ≤ 4096) (d : Nat) : (∀ j x, j < (pend s (a.take d)).length → (pend s a)[j]? = some x → sqd s x.Seq < (d : Int)) ∧ (∀ x, (pend s a)[(pend s (a.take d)).length]? = some x → ¬ sqd s x.Seq < (d : Int)) ∧ (pend s (a.take d)).length ≤ (pend s a).length ∧ (pend s a).take (pend s (a.take d)).length = pend s (a.take d) ∧ (pend s a).drop (pend s (a.take d)).length = pend (s + (d : Int)) (a.drop d) := by
  have e : pend s a = pend s (a.take d) ++ pend (s + (d : Int)) (a.drop d) := by
    by_cases hd : d ≤ a.length
    · conv => lhs; rw [← List.take_append_drop d a]
      rw [pend_append, List.length_take, Nat.min_eq_left hd]
    · rw [List.take_of_length_le (by omega), List.drop_eq_nil_of_le (by omega)]; simp [pend]
  refine ⟨fun j x hj hx => ?_, fun x hx => ?_, by rw [e, List.length_append]; omega, by rw [e, List.take_left], by rw [e, List.drop_left]⟩
  · rw [e, List.getElem?_append_left hj] at hx
    obtain ⟨i, h1, h2, _⟩ := mem_pend (List.mem_of_getElem? hx)
    rw [List.length_take] at h1
    rw [h2, sqd_at hs (by omega)]; omega
  · rw [e, List.getElem?_append_right (Nat.le_refl _), Nat.sub_self] at hx
    obtain ⟨i, h1, h2, _⟩ := mem_pend (List.mem_of_getElem? hx)
    rw [List.length_drop] at h1
    have h3 : x.Seq = (s + ((d + i : Nat) : Int)) % 4096 := by rw [h2]; congr 1; push_cast; omega
    rw [h3, sqd_at hs (by omega)]; omega
/-- The head of what is pending. -/
theorem pend_head {a : Win} {s : Int} {x : Nf} (ha : a.length ≤ 4096) (hx : (pend s a)[0]? = some x) : (x.Seq = s % 4096 ∧ a = some x.Body :: a.drop 1) ∨ (x.Seq ≠ s % 4096 ∧ ∃ r, a = none :: r) := by
  match a, ha, hx with
  | [], _, hx => simp [pend] at hx
  | some b :: r, _, hx =>
    have : x = ⟨s % 4096, b⟩ := by simpa [pend] using hx.symm
    subst this
    exact .inl ⟨rfl, rfl⟩
  | none :: r, ha, hx =>
    rw [pend] at hx
    obtain ⟨i, h1, h2, _⟩ := mem_pend (List.mem_of_getElem? hx)
    simp only [List.length_cons] at ha
    exact .inr ⟨by rw [h2]; omega, r, rfl⟩
theorem rdy_le : ∀ a : Win, rdy a ≤ a.length
  | [] => Nat.le_refl _
  | none :: a => by simp [rdy]
  | some b :: a => by have := rdy_le a; simp [rdy]; omega
theorem rdy_at : ∀ {a : Win} {j : Nat}, j < rdy a → ∃ b, a[j]? = some (some b)
  | some b :: a, 0, _ => ⟨b, rfl⟩
  | some b :: a, j + 1, h => by
    obtain ⟨x, hx⟩ := rdy_at (a := a) (j := j) (by simp [rdy] at h; omega)
    exact ⟨x, by simpa using hx⟩
  | none :: a, j, h => by simp [rdy] at h
  | [], j, h => by simp [rdy] at h
theorem rdy_end : ∀ (a : Win) b, a[rdy a]? ≠ some (some b)
  | [], b => by simp
  | none :: a, b => by simp [rdy]
  | some x :: a, b => by simpa [rdy] using rdy_end a b
theorem rdy_rep : ∀ (a : Win) (n : Nat), rdy (a ++ List.replicate n none) = rdy a
  | [], 0 => rfl
  | [], n + 1 => by simp [rdy, List.replicate_succ]
  | none :: a, n => by simp [rdy]
  | some b :: a, n => by simp [rdy, rdy_rep a n]
theorem adv_len (t : St) (n : Nat) : (advS t n).ws.length = t.ws.length := by simp [advS]; omega
theorem adv_s (t : St) (n : Nat) : 0 ≤ (advS t n).s ∧ (advS t n).s ≤ 4095 := by simp only [advS]; omega
theorem adv_zero {t : St} (h : 0 ≤ t.s ∧ t.s ≤ 4095) : advS t 0 = t := by
  obtain ⟨s, ws, out⟩ := t
  simp only [advS, bods] at *
  simp
  omega
theorem adv_step {t : St} {k : Nat} (hk : k < t.ws.length) : advS (advS t k) 1 = advS t (k + 1) := by
  obtain ⟨s, ws, out⟩ := t
  simp only at hk
  have h1 : min k ws.length = k := by omega
  have h2 : min (k + 1) ws.length = k + 1 := by omega
  obtain ⟨o, ho⟩ : ∃ o, ws[k]? = some o := ⟨_, List.getElem?_eq_getElem hk⟩
  have h3 : ws.drop k = o :: ws.drop (k + 1) := by
    rw [List.drop_eq_getElem_cons hk]
    congr 1
    rw [List.getElem?_eq_getElem hk] at ho
    exact Option.some.inj ho
  have h4 : ws.take (k + 1) = ws.take k ++ [o] := by rw [List.take_add_one, ho]; rfl
  have h5 : (o :: ws.drop (k + 1) ++ List.replicate k none : Win).length = ws.length := by simp; omega
  simp only [advS, h1, h2, h3, h4, h5, bods_append]
  have h6 : min 1 ws.length = 1 := by omega
  rw [h6]
  simp [List.replicate_succ', bods]
  omega
theorem adv_head {t : St} (h16 : t.ws.length = 16) (k : Nat) : (advS t k).ws[0]? = if k < 16 then t.ws[k]? else some none := by
  simp only [advS, h16]
  by_cases hk : k < 16
  · rw [if_pos hk, List.getElem?_append_left (by simp; omega), List.getElem?_drop]; simp
  · rw [if_neg hk, List.drop_eq_nil_of_le (by omega), List.nil_append, List.getElem?_replicate]; simp; omega
theorem kp_len (ws : Win) (d : Nat) (b : List Int) : (kp ws d b).length = ws.length := by unfold kp; split <;> simp
theorem kp_yes {ws : Win} {d : Nat} {b : List Int} (h : ws[d]? = some none) : kp ws d b = ws.set d (some b) := by unfold kp; rw [if_pos h]
theorem kp_no {ws : Win} {d : Nat} {b : List Int} (h : ws[d]? ≠ some none) : kp ws d b = ws := by unfold kp; rw [if_neg h]
theorem kp_at {ws : Win} {d : Nat} {b : List Int} (h : d < ws.length) : ∃ c, (kp ws d b)[d]? = some (some c) := by
  by_cases e : ws[d]? = some none
  · rw [kp_yes e]; exact ⟨b, by simp [h]⟩
  · rw [kp_no e]
    rw [List.getElem?_eq_getElem h] at e ⊢
    match hx : ws[d] with
    | none => rw [hx] at e; exact absurd rfl e
    | some c => exact ⟨c, rfl⟩
theorem kp_mem {ws : Win} {d : Nat} {b x : List Int} (h : some x ∈ kp ws d b) : some x ∈ ws ∨ x = b := by
  unfold kp at h
  split at h
  · rcases List.mem_or_eq_of_mem_set h with h | h
    · exact .inl h
    · exact .inr (Option.some.inj h)
  · exact .inl h
theorem kp_other {ws : Win} {d i : Nat} {b : List Int} (h : d ≠ i) : (kp ws d b)[i]? = ws[i]? := by
  unfold kp
  split
  · rw [List.getElem?_set_ne h]
  · rfl
/-- A frame more. -/
theorem pend_set {ws : Win} {d : Nat} {b : List Int} (h : ws[d]? = some none) (s : Int) : pend s (ws.set d (some b)) = pend s (ws.take d) ++ ⟨(s + (d : Int)) % 4096, b⟩ :: pend (s + (d : Int)) (ws.drop d) := by
  have hd : d < ws.length := (List.getElem?_eq_some_iff.1 h).1
  have e1 : ws.drop d = none :: ws.drop (d + 1) := by
    rw [List.drop_eq_getElem_cons hd]
    congr 1
    rw [List.getElem?_eq_getElem hd] at h
    exact Option.some.inj h
  have e2 : ws.set d (some b) = ws.take d ++ some b :: ws.drop (d + 1) := by rw [List.set_eq_take_append_cons_drop, if_pos hd]
  rw [e2, pend_append, List.length_take, Nat.min_eq_left (by omega), pend, e1, pend]
theorem fill_take (s : Int) (ws : Win) {xs : List Nf} {k : Nat} {f : Nf} (h : xs[k]? = some f) : fill s ws (xs.take (k + 1)) = kp (fill s ws (xs.take k)) (sqd s f.Seq).toNat f.Body := by
  rw [List.take_add_one, h]; simp [fill]
theorem fill_len (s : Int) : ∀ (xs : List Nf) (ws : Win), (fill s ws xs).length = ws.length
  | [], ws => rfl
  | f :: r, ws => by rw [show fill s ws (f :: r) = fill s (kp ws (sqd s f.Seq).toNat f.Body) r from rfl, fill_len s r, kp_len]
theorem okp_mem {s : Int} : ∀ {xs : List Nf} {p : Int}, 0 ≤ p → okp s p xs = true → ∀ f ∈ xs, (1 ≤ sqd s f.Seq ∧ sqd s f.Seq ≤ 15) ∧ f.Body.length ≤ 100
  | [], p, hp, h => fun f hf => by cases hf
  | f :: r, p, hp, h => by
    rw [okp, Bool.and_eq_true, Bool.and_eq_true] at h
    have h1 := of_decide_eq_true h.1.1
    intro g hg
    rcases List.mem_cons.1 hg with rfl | hg
    · exact ⟨by omega, of_decide_eq_true h.1.2⟩
    · exact okp_mem (by omega) h.2 g hg
theorem drop_none {ws : Win} {p : Nat} (h : ∀ i, p ≤ i → i < ws.length → ws[i]? = some none) : ∀ o ∈ ws.drop p, o = none := by
  intro o ho
  obtain ⟨i, hi⟩ := List.mem_iff_getElem?.1 ho
  rw [List.getElem?_drop] at hi
  have := h (p + i) (by omega) (List.getElem?_eq_some_iff.1 hi).1
  rw [this] at hi
  exact (Option.some.inj hi).symm
theorem fill_ok {s : Int} (hs : 0 ≤ s ∧ s ≤ 4095) : ∀ (xs : List Nf) (p : Nat) (ws : Win), ws.length = 16 → (∀ i, p + 1 ≤ i → i < 16 → ws[i]? = some none) → okp s p xs = true →
    pend s (fill s ws xs) = pend s ws ++ xs ∧ (∀ x, some x ∈ fill s ws xs → some x ∈ ws ∨ x.length ≤ 100) ∧ (fill s ws xs)[0]? = ws[0]?
  | [], p, ws, hl, hn, h => ⟨by simp [fill], fun x hx => .inl hx, rfl⟩
  | f :: r, p, ws, hl, hn, h => by
    rw [okp, Bool.and_eq_true, Bool.and_eq_true] at h
    have h1 := of_decide_eq_true h.1.1
    have h2 := of_decide_eq_true h.1.2
    obtain ⟨d, hd⟩ : ∃ d : Nat, sqd s f.Seq = d := ⟨(sqd s f.Seq).toNat, by omega⟩
    have hd1 : p + 1 ≤ d ∧ d ≤ 15 := by omega
    have hnd := hn d hd1.1 (by omega)
    have e : fill s ws (f :: r) = fill s (ws.set d (some f.Body)) r := by
      show fill s (kp ws (sqd s f.Seq).toNat f.Body) r = _
      rw [hd, Int.toNat_natCast, kp_yes hnd]
    have ih := fill_ok hs r d (ws.set d (some f.Body)) (by simpa using hl) (fun i h3 h4 => by rw [List.getElem?_set_ne (by omega)]; exact hn i (by omega) h4) (by rw [← hd]; exact h.2)
    rw [e]
    refine ⟨?_, fun x hx => ?_, ?_⟩
    · rw [ih.1, pend_set hnd]
      have hdr := drop_none (ws := ws) (p := d) fun i h3 h4 => hn i (by omega) (by omega)
      have h5 : pend s ws = pend s (ws.take d) := by
        conv => lhs; rw [← List.take_append_drop d ws]
        rw [pend_append, pend_none _ _ hdr, List.append_nil]
      have h6 : f = ⟨(s + (d : Int)) % 4096, f.Body⟩ := by
        have := at_sqd (s := s) (n := f.Seq) (by omega)
        rw [hd] at this
        rw [← this]
      rw [pend_none _ _ hdr, h5, ← h6]
      simp
    · rcases ih.2.1 x hx with h7 | h7
      · rcases List.mem_or_eq_of_mem_set h7 with h7 | h7
        · exact .inl h7
        · exact .inr (by rw [Option.some.inj h7]; exact h2)
      · exact .inr h7
    · rw [ih.2.2, List.getElem?_set_ne (by omega)]
/-- A window in which the first frame is missing. -/
structure Ok (s : Int) (ws : Win) : Prop where
  s : 0 ≤ s ∧ s ≤ 4095
  len : ws.length = 16
  h0 : ws[0]? = some none
  b : ∀ x, some x ∈ ws → x.length ≤ 100
theorem vr_parts {r : Rob} (h : vr r = true) : okp r.Start 0 r.Pending = true ∧ (0 ≤ r.Start ∧ r.Start ≤ 4095) := by
  unfold vr at h
  rw [Bool.and_eq_true] at h
  exact ⟨h.1, of_decide_eq_true h.2⟩
theorem vr_ok {r : Rob} (h : vr r = true) : Ok r.Start (start r).ws ∧ pend r.Start (start r).ws = r.Pending := by
  obtain ⟨h1, h2⟩ := vr_parts h
  have h3 := fill_ok h2 r.Pending 0 none16 (by simp [none16]) (fun i _ h4 => by show (List.replicate 16 none)[i]? = _; rw [List.getElem?_replicate, if_pos h4]) h1
  refine ⟨⟨h2, by show (fill _ _ _).length = _; rw [fill_len]; simp [none16], by show (fill _ _ _)[0]? = _; rw [h3.2.2]; rfl, fun x hx => ?_⟩, ?_⟩
  · rcases h3.2.1 x hx with h4 | h4
    · have := List.eq_of_mem_replicate h4; cases this
    · exact h4
  · show pend _ (fill _ _ _) = _
    rw [h3.1, pend_none none16 _ (fun o ho => List.eq_of_mem_replicate ho)]; rfl
theorem okp_pend {s : Int} (hs : 0 ≤ s ∧ s ≤ 4095) : ∀ (ws : Win) (p q : Nat), p < q → q + ws.length ≤ 16 → (∀ x, some x ∈ ws → x.length ≤ 100) → okp s p (pend (s + (q : Int)) ws) = true
  | [], p, q, h1, h2, h3 => rfl
  | none :: r, p, q, h1, h2, h3 => by
    rw [pend, show s + (q : Int) + 1 = s + ((q + 1 : Nat) : Int) by push_cast; omega]
    simp only [List.length_cons] at h2
    exact okp_pend hs r p (q + 1) (by omega) (by omega) fun x hx => h3 x (List.mem_cons_of_mem _ hx)
  | some b :: r, p, q, h1, h2, h3 => by
    simp only [List.length_cons] at h2
    rw [pend, okp, show s + (q : Int) + 1 = s + ((q + 1 : Nat) : Int) by push_cast; omega]
    simp only [sqd_at hs (show q < 4096 by omega)]
    rw [Bool.and_eq_true, Bool.and_eq_true]
    exact ⟨⟨decide_eq_true (by omega), decide_eq_true (h3 b List.mem_cons_self)⟩, okp_pend hs r q (q + 1) (by omega) (by omega) fun x hx => h3 x (List.mem_cons_of_mem _ hx)⟩
theorem pend_inj : ∀ {a b : Win} {s : Int}, a.length = b.length → a.length ≤ 4095 → pend s a = pend s b → a = b
  | [], [], s, h1, h2, h => rfl
  | none :: a, none :: b, s, h1, h2, h => by
    simp only [List.length_cons] at h1 h2
    rw [pend, pend] at h
    rw [pend_inj (by omega) (by omega) h]
  | some x :: a, some y :: b, s, h1, h2, h => by
    simp only [List.length_cons] at h1 h2
    rw [pend, pend] at h
    injection h with h3 h4
    injection h3 with _ h3
    rw [h3, pend_inj (by omega) (by omega) h4]
  | none :: a, some y :: b, s, h1, h2, h => by
    simp only [List.length_cons] at h1 h2
    rw [pend, pend] at h
    obtain ⟨i, g1, g2, _⟩ := mem_pend (a := a) (s := s + 1) (x := ⟨s % 4096, y⟩) (by rw [h]; exact List.mem_cons_self)
    simp only at g2
    omega
  | some y :: a, none :: b, s, h1, h2, h => by
    simp only [List.length_cons] at h1 h2
    rw [pend, pend] at h
    obtain ⟨i, g1, g2, _⟩ := mem_pend (a := b) (s := s + 1) (x := ⟨s % 4096, y⟩) (by rw [← h]; exact List.mem_cons_self)
    simp only at g2
    omega
theorem ok_vr {s : Int} {ws : Win} (h : Ok s ws) : vr ⟨s, pend s ws⟩ = true ∧ (start ⟨s, pend s ws⟩).ws = ws := by
  have h1 : vr ⟨s, pend s ws⟩ = true := by
    unfold vr
    rw [Bool.and_eq_true]
    refine ⟨?_, decide_eq_true h.s⟩
    obtain ⟨r, rfl⟩ : ∃ r, ws = none :: r := by
      match ws, h.h0 with
      | o :: r, h0 => exact ⟨r, by rw [show o = none by simpa using h0]⟩
    have hl := h.len
    simp only [List.length_cons] at hl
    show okp s 0 (pend s (none :: r)) = true
    rw [pend]
    exact okp_pend h.s r 0 1 (by omega) (by omega) fun x hx => h.b x (List.mem_cons_of_mem _ hx)
  refine ⟨h1, ?_⟩
  have h2 := vr_ok h1
  exact pend_inj (by rw [h2.1.len, h.len]) (by rw [h2.1.len]; omega) h2.2
theorem take_mem {ws : Win} {n : Nat} {o : Option (List Int)} (h : o ∈ ws.drop n ++ List.replicate (min n ws.length) none) : o ∈ ws ∨ o = none := by
  rcases List.mem_append.1 h with h | h
  · exact .inl (List.mem_of_mem_drop h)
  · exact .inr (List.eq_of_mem_replicate h)
theorem run_ok {t : St} (hs : 0 ≤ t.s ∧ t.s ≤ 4095) (hl : t.ws.length = 16) (hb : ∀ x, some x ∈ t.ws → x.length ≤ 100) : Ok (runS t).s (runS t).ws := by
  refine ⟨adv_s _ _, by rw [runS, adv_len, hl], ?_, fun x hx => ?_⟩
  · rw [runS, adv_head hl]
    split
    · rename_i h
      match hx : t.ws[rdy t.ws]? with
      | none => rw [List.getElem?_eq_none_iff] at hx; omega
      | some none => rfl
      | some (some b) => exact absurd hx (rdy_end _ _)
    · rfl
  · rcases take_mem hx with h | h
    · exact hb x h
    · cases h
theorem rdy_none {ws : Win} (h : ws[0]? = some none) : rdy ws = 0 := by
  match ws, h with
  | none :: r, _ => rfl
  | some b :: r, h => simp at h
theorem run_still {t : St} (h : t.ws[0]? = some none) (hs : 0 ≤ t.s ∧ t.s ≤ 4095) : runS t = t := by rw [runS, rdy_none h, adv_zero hs]
theorem buf_start {r : Rob} (h : vr r = true) : buf (start r) = r := by
  show (⟨r.Start, pend r.Start (start r).ws⟩ : Rob) = r
  rw [(vr_ok h).2]
end Go.Proofs.Ytejjafmppihneaa.ro
