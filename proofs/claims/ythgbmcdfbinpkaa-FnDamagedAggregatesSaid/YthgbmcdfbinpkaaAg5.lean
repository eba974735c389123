/- Slices of slices of bytes as rows; AggregateFrames of both sides. Condition: up to 2^26 frames. -/
import Derived.Test.YthgbmcdfbinpkaaAg4
import Derived.Deep.RegionHeld3
namespace Go.Proofs.Ythgbmcdfbinpkaa.ag
open Go.RowKit sl harn bx rng mrw drk stw
set_option linter.unusedVariables false
set_option linter.unusedSimpArgs false

/-- An element of a slice of slices of bytes. -/
def bsS : Sh (List Int) where
  T := 22
  s := 1
  C := fun _ A n c => [.slice A n c]
  B := fun x => x
  len := fun _ _ _ _ => rfl
  one := fun x A n c u hu => by simp only [List.mem_singleton] at hu; subst hu; rfl
  pos := Nat.one_pos
  ne := by decide
theorem atB {w : World} {lo hi n cap : Nat} {A : Option Addr} {ms : List (List Int)} {k : Nat} (h : Rq bsS w lo hi A n cap ms) (hk : k < n) : ∃ b off y A' n' c', A = some ⟨b, off, none⟩ ∧ ms[k]? = some y ∧ b < hi ∧ w.cell? ⟨b, off + k, none⟩ = some (.slice A' n' c') ∧ Rd .u8 w lo hi A' n' c' y := by
  obtain ⟨b, off, y, e, hy, h1, h2, A', n', c', hr, hb⟩ := h.at_ hk
  refine ⟨b, off, y, A', n', c', e, hy, h2, ?_, hb⟩
  have hh : w.cell? ⟨b, off + k * 1 + 0, none⟩ = some (.slice A' n' c') := hr 0 _ rfl
  rwa [Nat.mul_one, Nat.add_zero] at hh
/-- Some frame is too long. -/
def tl (ms : List (List Int)) : Bool := ms.any fun f => decide (200 < f.length)
theorem tl_no {ms : List (List Int)} (h : tl ms = false) : ∀ f ∈ ms, f.length ≤ 200 := by
  intro f hf
  have h1 := List.any_eq_false.1 h f hf
  simpa using h1
theorem tl_yes {ms : List (List Int)} {k : Nat} {y : List Int} (h : ms[k]? = some y) (hy : 200 < y.length) : tl ms = true := List.any_eq_true.2 ⟨y, List.mem_of_getElem? h, by simpa using hy⟩
theorem tl_off {ms : List (List Int)} (h : ∀ (i : Nat) (y : List Int), ms[i]? = some y → y.length ≤ 200) : tl ms = false := by
  refine List.any_eq_false.2 fun f hf => ?_
  obtain ⟨i, hi, rfl⟩ := List.mem_iff_getElem.1 hf
  have := h i _ (List.getElem?_eq_getElem hi)
  simp; omega
theorem tl_agg {ms : List (List Int)} (h : tl ms = true) : agg ms = [] := by
  obtain ⟨f, hf, h2⟩ := List.any_eq_true.1 h
  refine agg_no fun hh => ?_
  have := hh.2 f hf
  simp at h2; omega
/-- An index, or none. -/
def IxPost (ms : List (List Int)) (w : World) (e : Ending) (w' : World) : Prop := ∃ v : Int, e = .returned (.int .i64 v) ∧ decide (0 ≤ v) = tl ms ∧ w = w'
theorem step_app {P : Program} {ops : Array Oper} {o : Oper} {a : Act} {w : World} {K : Act → World → Prop} {Q : Exit → Act → World → Prop} {X : Prop} (hg : o.guard = none) (s x : Operand) (t : TypeId)
    (hop : o.op = .call { callee := .builtin .append, args := #[s, x], argTypes := #[t, t] })
    (E : TypeId) (i : TypeInfo) (z : Value) (k : IntKind) (h1 : P.underlying t = some (.slice E)) (h2 : P.info? E = some i) (h3 : i.zero = some z) (h4 : i.size = 1) (h5 : i.bytes ≤ 8) (h6 : z.cells.size = 1)
    {lo hi lo2 hi2 n cap m c : Nat} {A B : Option Addr} {zs ys : List Int} (hs : a.eval s = .slice A n cap) (hx : a.eval x = .slice B m c) (ho : Ow E k w lo hi A n cap zs) (hr : Rd k w lo2 hi2 B m c ys) (hn : n + m ≤ 1073741824) (hlo : lo ≤ w.heap.size)
    (hK : ∀ A' cap' w', Ow E k w' lo w'.heap.size A' (n + m) cap' (zs ++ ys) → Below lo w w' → K (a.put o.dst (.slice A' (n + m) cap')) w') :
    if Region.wanted o (yielded ops a.tmps) = true then Oper.wp P o a w K Q else X := by
  have hw : Region.wanted o (yielded ops a.tmps) = true := by simp [Region.wanted, hg]
  rw [if_pos hw]
  obtain ⟨A', cap', w', hrun, g1, g2⟩ := app (P := P) t o.type E i z k h1 h2 h3 h4 h5 h6 ho hr hn hlo
  unfold Oper.wp execOp
  simp only [hop, resolve, invoke, builtin, Sem.run_bind, Sem.run_pure, Result.andThen_ok, List.map_toArray, List.map_cons, List.map_nil, hs, hx, hrun]
  exact hK A' cap' w' g1 g2
theorem take_snocB {α : Type} {l : List α} {i : Nat} {x : α} (h : l[i]? = some x) : l.take (i + 1) = l.take i ++ [x] := by rw [List.take_add_one, h]; rfl
theorem rep_snoc (j : Nat) : List.replicate (j + 1) (0 : Int) = List.replicate j 0 ++ [0] := List.replicate_succ'
theorem flat_four (l : List (List Int)) (h : ∀ f ∈ l, f.length ≤ 200) : (l.flatMap sfr).length % 4 = 0 := by
  induction l with
  | nil => rfl
  | cons f r ih =>
    have h1 : (f :: r).flatMap sfr = sfr f ++ r.flatMap sfr := rfl
    have h2 := sfr_len (h f List.mem_cons_self)
    have h3 := sub_in (n := (f.length : Int)) (by have := h f List.mem_cons_self; omega)
    have h4 := ih fun g hg => h g (List.mem_cons_of_mem _ hg)
    rw [h1, List.length_append, h2]
    omega
set_option maxRecDepth 100000 in
set_option maxHeartbeats 4000000 in
theorem implTl (A : Option Addr) (n c : Nat) (hn : (n : Int) ≤ 9223372036854775807) (w : World) :
    Calls Try.prog 44 #[.slice A n c] w (fun e w' => e = .returned (.bool (decide (200 < n))) ∧ w = w') := by
  have HT := Lib.hid (show decide (0 ≤ (n : Int) ∧ (n : Int) ≤ 200) = !decide (200 < n) by
    by_cases h : 200 < n
    · rw [decide_eq_true h]; exact decide_eq_false (by omega)
    · rw [decide_eq_false h]; exact decide_eq_true (by omega))
  obtain ⟨t, ht⟩ : ∃ t, decide (200 < n) = t := ⟨_, rfl⟩
  rw [ht] at HT
  rw [ht]
  clear ht hn
  go_enter Try.func44, Try.ntmps44
  go_wp2_with fail
  (with_reducible refine (implFl (n : Int) (!t) HT.out _).mono ?_)
  rintro e w1 ⟨rfl, rfl⟩
  go_wp2_with fail
  go_ret
  exact ⟨by cases t <;> rfl, rfl⟩
set_option maxRecDepth 100000 in
set_option maxHeartbeats 4000000 in
theorem implIx (ms : List (List Int)) (lo hi : Nat) (A : Option Addr) (n cap : Nat) (w : World) (h : Rq bsS w lo hi A n cap ms) : Calls Try.prog 61 #[.slice A n cap, .func (.func 44) #[] #[]] w (IxPost ms w) := by
  have HQ := Lib.hid h
  have hcp := h.cap_
  have HL := Lib.hid h.len
  clear h
  go_enter Try.func61, Try.ntmps61
  go_wp2_with fail
  go_loop [8] (fun i => ∃ k : Nat, i = .int .i64 k ∧ k ≤ n ∧ ∀ i y, i < k → ms[i]? = some y → y.length ≤ 200) (fun i => n - (intOf i).toNat)
  case atStart => exact ⟨0, rfl, by omega, fun i y hi _ => by omega⟩
  case round =>
    obtain ⟨k, rfl, hk, hp⟩ := hrel
    have HP := Lib.hid hp
    clear hp
    by_cases hlt : k < n
    · obtain ⟨b, off, y, A', n', c', rfl, hy, hb1, hc, hd⟩ := atB HQ.out hlt
      have HY := Lib.hid hy
      have hnc := hd.cap_
      have HDL := Lib.hid hd.len
      have hlt2 : (k : Int) < n := by omega
      clear hy hd
      go_wp2_with fail
      (with_reducible refine (implTl A' n' c' (by omega) _).mono ?_)
      obtain ⟨t, ht⟩ : ∃ t, decide (200 < n') = t := ⟨_, rfl⟩
      rw [ht]
      rintro e w1 ⟨rfl, rfl⟩
      have HT := Lib.hid ht
      clear ht
      cases t with
      | true =>
        have HE := Lib.hid (show decide (0 ≤ (k : Int)) = tl ms by rw [tl_yes HY.out (by rw [HDL.out]; exact of_decide_eq_true HT.out)]; exact decide_eq_true (by omega))
        go_wp2_with fail
        go_ret
        exact ⟨(k : Int), rfl, HE.out, rfl⟩
      | false =>
        have HN := Lib.hid (show ∀ i y, i < k + 1 → ms[i]? = some y → y.length ≤ 200 from fun i z hi hz => by
            by_cases hik : i < k
            · exact HP.out i z hik hz
            · obtain rfl : i = k := by omega
              obtain rfl : y = z := Option.some.inj (HY.out.symm.trans hz)
              rw [HDL.out]; have := of_decide_eq_false HT.out; omega)
        go_wp2_with fail
        go_round
        case rel => exact ⟨k + 1, by go_num, by omega, HN.out⟩
        case measure => simp [intOf]; omega
    · have hlt2 : ¬ (k : Int) < n := by omega
      have HE := Lib.hid (show decide (0 ≤ (-1 : Int)) = tl ms by rw [tl_off (fun i y hy => HP.out i y (by have h1 := (List.getElem?_eq_some_iff.1 hy).1; have h2 := HL.out; omega) hy)]; rfl)
      go_wp2_with fail
      go_ret
      exact ⟨-1, rfl, HE.out, rfl⟩
set_option maxRecDepth 100000 in
set_option maxHeartbeats 4000000 in
theorem implCn (ms : List (List Int)) (lo hi : Nat) (A : Option Addr) (n cap : Nat) (w : World) (h : Rq bsS w lo hi A n cap ms) : Calls Try.prog 43 #[.slice A n cap, .func (.func 44) #[] #[]] w fun e w' => e = .returned (.bool (tl ms)) ∧ w = w' := by
  have HQ := Lib.hid h
  clear h
  go_enter Try.func43, Try.ntmps43
  go_wp2_with fail
  (with_reducible refine (implIx ms lo hi A n cap _ HQ.out).mono ?_)
  rintro e w1 ⟨v, rfl, hv, rfl⟩
  have HV := Lib.hid hv
  clear hv
  obtain ⟨t, ht⟩ : ∃ t, decide (0 ≤ v) = t := ⟨_, rfl⟩
  have HT := Lib.hid (show tl ms = t by rw [← HV.out]; exact ht)
  go_wp2_with fail
  go_ret
  exact ⟨by rw [HT.out, ← ht]; rfl, rfl⟩
set_option maxRecDepth 100000 in
set_option maxHeartbeats 4000000 in
theorem implAg (ms : List (List Int)) (lo hi : Nat) (A : Option Addr) (n cap : Nat) (w : World) (h : Rq bsS w lo hi A n cap ms) (hn : n ≤ 67108864) :
    Calls Try.prog 14 #[.slice A n cap] w (SlPost 5 .u8 w (agg ms)) := by
  obtain ⟨j0, hj0, hy0, hy1, hy2⟩ := info_parts u8Info
  have HY8 := Lib.hid (And.intro hj0 (And.intro hy0 (And.intro hy1 hy2)))
  clear hj0 hy0 hy1 hy2
  have HQ := Lib.hid h
  have hcp := h.cap_
  have HL := Lib.hid h.len
  have HBQ := Lib.hid (fun (W : World) (hW : Below w.heap.size w W) => h.below hW)
  have HN := Lib.hid hn
  clear h hn
  by_cases h8 : 8 < n
  · have HE := Lib.hid (show agg ms = [] from agg_no (fun hh => by have h1 := hh.1; have h2 := HL.out; omega))
    have h8I : (8 : Int) < n := by omega
    go_enter Try.func14, Try.ntmps14
    go_wp2_with fail
    go_ret
    rw [HE.out]
    exact ⟨_, _, _, rfl, (Ow.empty _ _ _).up, (Below.refl _ _).alloc (Nat.le_refl _) _⟩
  · have h8I : ¬ (8 : Int) < n := by omega
    go_enter Try.func14, Try.ntmps14
    obtain ⟨t, ht⟩ : ∃ t, tl ms = t := ⟨_, rfl⟩
    have HT := Lib.hid ht
    clear ht
    go_wp2_with fail
    (with_reducible refine (implCn ms lo hi A n cap _ (HBQ.out _ ((Below.refl _ _).alloc (Nat.le_refl _) _))).mono ?_)
    rw [HT.out]
    rintro e w1 ⟨rfl, rfl⟩
    cases t with
    | true =>
      have HE := Lib.hid (tl_agg HT.out)
      go_wp2_with fail
      go_ret
      rw [HE.out]
      exact ⟨_, _, _, rfl, (Ow.empty _ _ _).up, (Below.refl _ _).alloc (Nat.le_refl _) _⟩
    | false =>
      have HA := Lib.hid (tl_no HT.out)
      have HE := Lib.hid (agg_yes (l := ms) (by rw [HL.out]; omega) HA.out)
      have O0 := Lib.hid (Ow.empty 5 .u8 w).up
      have B0 := Lib.hid ((Below.refl w.heap.size w).alloc (Nat.le_refl _) (.cells #[] 5))
      go_wp2_with fail
      go_loopw [3, 17] (fun s i wr => ∃ (k m c1 : Nat) (A1 : Option Addr), s = .slice A1 m c1 ∧ i = .int .i64 k ∧ k ≤ n ∧ Ow 5 .u8 wr w.heap.size wr.heap.size A1 m c1 ((ms.take k).flatMap sfr) ∧ Below w.heap.size w wr) (fun _ i _ => n - (intOf i).toNat)
      case atStart => exact ⟨0, 0, 0, _, rfl, rfl, by omega, O0.out, B0.out⟩
      case round =>
        obtain ⟨k, m, c1, A1, rfl, rfl, hk, ho, hb⟩ := hrel
        have HO := Lib.hid ho
        have HB := Lib.hid hb
        have hbs := hb.size
        have hm : m ≤ 1632 := by have h1 := ho.len; have h2 := flat_le (l := ms.take k) (fun f hf => HA.out f (List.mem_of_mem_take hf)); rw [List.length_take] at h2; omega
        clear ho hb
        by_cases hlt : k < n
        · obtain ⟨b, off, y, A', n', c', hA, hy, hb1, hc, hd⟩ := atB (HBQ.out _ HB.out) hlt
          subst hA
          have HY := Lib.hid (take_snocB hy)
          have HD := Lib.hid hd
          have HDL := Lib.hid (show n' ≤ 200 by have h1 := HA.out y (List.mem_of_getElem? hy); have h2 := hd.len; omega)
          have hlt2 : (k : Int) < n := by omega
          clear hy hd
          go_wp2_with fail
          (with_reducible refine (implSf y lo hi A' n' c' _ HD.out HDL.out).mono ?_)
          rintro e w2 ⟨C, m2, c2, rfl, ho2, hb2⟩
          have HS := Lib.hid ho2
          have hm2 : m2 ≤ 204 := by have h1 := ho2.len; rw [sfr_len (by have h3 := HD.out.len; have h4 := HDL.out; omega)] at h1; have h2 := sub_rng (y.length : Int); omega
          have HO2 := Lib.hid (HO.out.below hb2)
          have HB2 := Lib.hid (HB.out.trans (hb2.mono HB.out.size))
          have hbs2 := hb2.size
          clear ho2 hb2 HO
          go_wp2_with (at_builtin; refine wpList_app _ rfl _ _ 22 rfl 5 j0 _ .u8 Try.underlying22 HY8.out.1 HY8.out.2.1 HY8.out.2.2.1 (by rw [HY8.out.2.2.2]; omega) rfl rfl rfl HO2.out HS.out.rd (by omega) (by omega) ?_; intro A3 c3 w3 ho3 hb3; have HO3 := Lib.hid ho3; have HB3 := Lib.hid (HB2.out.trans hb3); clear ho3 hb3)
          go_roundw
          case rel => exact ⟨k + 1, m + m2, c3, A3, rfl, by go_num, by omega, by rw [HY.out, flat_snoc]; exact HO3.out, HB3.out⟩
          case measure => simp [intOf]; omega
        · have hlt2 : ¬ (k : Int) < n := by omega
          obtain rfl : k = n := by omega
          have HF := Lib.hid (show ms.take k = ms from List.take_of_length_le (by rw [HL.out]; exact Nat.le_refl _))
          go_wp2_with fail
          go_ret
          exact ⟨_, _, _, rfl, by have hh := HO.out; rw [HF.out, ← HE.out] at hh; exact hh, HB.out⟩
set_option maxRecDepth 100000 in
set_option maxHeartbeats 4000000 in
theorem specAg (ms : List (List Int)) (lo hi : Nat) (A : Option Addr) (n cap : Nat) (w : World) (h : Rq bsS w lo hi A n cap ms) (hn : n ≤ 67108864) :
    Calls Try.prog 30 #[.slice A n cap] w (SlPost 5 .u8 w (agg ms)) := by
  obtain ⟨j0, hj0, hy0, hy1, hy2⟩ := info_parts u8Info
  have HY8 := Lib.hid (And.intro hj0 (And.intro hy0 (And.intro hy1 hy2)))
  clear hj0 hy0 hy1 hy2
  have HQ := Lib.hid h
  have hcp := h.cap_
  have HL := Lib.hid h.len
  have HBQ := Lib.hid (fun (W : World) (hW : Below w.heap.size w W) => h.below hW)
  have HN := Lib.hid hn
  clear h hn
  have O0 := Lib.hid (Ow.empty 5 .u8 w).up
  have B0 := Lib.hid ((Below.refl w.heap.size w).alloc (Nat.le_refl _) (.cells #[] 5))
  go_enter Try.func30, Try.ntmps30
  go_wp2_with fail
  go_loopw [3, 4] (fun s i wr => ∃ (k m c1 : Nat) (A1 : Option Addr), s = .slice A1 m c1 ∧ i = .int .i64 k ∧ k ≤ n ∧ (0 < k → n ≤ 8) ∧ (∀ f ∈ ms.take k, f.length ≤ 200) ∧ Ow 5 .u8 wr w.heap.size wr.heap.size A1 m c1 ((ms.take k).flatMap sfr) ∧ Below w.heap.size w wr) (fun _ i _ => n - (intOf i).toNat)
  case atStart => exact ⟨0, 0, 0, _, rfl, rfl, by omega, fun h => absurd h (by omega), fun f hf => by simp at hf, O0.out, B0.out⟩
  case round =>
    obtain ⟨k, m, c1, A1, rfl, rfl, hk, hk8, hal, ho, hb⟩ := hrel
    have HO := Lib.hid ho
    have HB := Lib.hid hb
    have hbs := hb.size
    have HK8 := Lib.hid hk8
    have HAL := Lib.hid hal
    have hm4 : m % 4 = 0 := by have h1 := ho.len; rw [← h1]; exact flat_four _ hal
    have hm : m ≤ 1632 := by
        have h1 := ho.len; have h2 := flat_le hal; rw [List.length_take] at h2
        by_cases h0 : 0 < k
        · have := hk8 h0; omega
        · obtain rfl : k = 0 := by omega
          simp at h1; omega
    have HM4 := Lib.hid hm4
    clear ho hb hk8 hal hm4
    by_cases hlt : k < n
    · obtain ⟨b, off, y, A', n', c', hA, hy, hb1, hc, hd⟩ := atB (HBQ.out _ HB.out) hlt
      subst hA
      have HYK := Lib.hid hy
      have HY := Lib.hid (take_snocB hy)
      have hnc := hd.cap_
      have HD := Lib.hid hd
      have HDL := Lib.hid hd.len
      have hlt2 : (k : Int) < n := by omega
      have HCB := Lib.hid (fun (W : World) (hW : Below w.heap.size w W) => (show W.cell? ⟨b, off + k, none⟩ = some (.slice A' n' c') by
          obtain ⟨b3, off3, y3, A3', n3', c3', e3, hy3, _, hc3, _⟩ := atB HQ.out hlt
          injection e3 with e3; injection e3 with e3 e4; subst e3 e4
          have h1 : wr.cell? ⟨b, off + k, none⟩ = some (.slice A3' n3' c3') := (HB.out.cell (World.block_lt_of_cell? _ _ hc3)).trans hc3
          rw [h1] at hc; injection hc with hc
          rw [← hc]; exact (hW.cell (World.block_lt_of_cell? _ _ hc3)).trans hc3))
      have HDB := Lib.hid (fun (W : World) (hW : Below w.heap.size w W) => (show Rd .u8 W lo hi A' n' c' y by
          obtain ⟨b3, off3, y3, A3', n3', c3', e3, hy3, _, hc3, hd3⟩ := atB HQ.out hlt
          injection e3 with e3; injection e3 with e3 e4; subst e3 e4
          have h1 : wr.cell? ⟨b, off + k, none⟩ = some (.slice A3' n3' c3') := (HB.out.cell (World.block_lt_of_cell? _ _ hc3)).trans hc3
          rw [h1] at hc; injection hc with hc; injection hc with q1 q2 q3
          obtain rfl : y = y3 := Option.some.inj (hy.symm.trans hy3)
          subst q1 q2 q3
          exact hd3.below hW))
      clear hy hd
      by_cases hl2 : 200 < n'
      · have hl2I : (200 : Int) < n' := by omega
        have HE := Lib.hid (tl_agg (tl_yes HYK.out (by rw [HDL.out]; exact hl2)))
        go_wp2_with fail
        go_ret
        rw [HE.out]
        exact ⟨_, _, _, rfl, ((Ow.empty 5 .u8 wr).down hbs).up, HB.out.alloc hbs _⟩
      · by_cases h8 : 8 < n
        · have hl2I : ¬ (200 : Int) < n' := by omega
          have h8I : (8 : Int) < n := by omega
          have HE := Lib.hid (show agg ms = [] from agg_no (fun hh => by have h1 := hh.1; have h2 := HL.out; omega))
          go_wp2_with fail
          go_ret
          rw [HE.out]
          exact ⟨_, _, _, rfl, ((Ow.empty 5 .u8 wr).down hbs).up, HB.out.alloc hbs _⟩
        · have hl2I : ¬ (200 : Int) < n' := by omega
          have h8I : ¬ (8 : Int) < n := by omega
          have hn2 : n' ≤ 200 := by omega
          go_upto_region 7 with fail
          have HOd := Lib.hid (own.ow_drew HO.out)
          have HBd := Lib.hid (own.below_drew HB.out)
          have k0 : wr.drew.cell? ⟨b, off + k, none⟩ = some (.slice A' n' c') := HCB.out _ HBd.out
          clear hc
          go_region_held3 (fun w' => w'.cell? ⟨b, off + k, none⟩ = some (.slice A' n' c')) (first | (with_reducible exact k0) | (with_reducible exact k7) | (with_reducible exact k8) | (with_reducible exact k9))
            (first
            | (go_at_call 23; (with_reducible refine (specDb (n' : Int) _).mono ?_); rintro e w7 ⟨C, m7, c7, rfl, ho7, hb7⟩; have D7 := Lib.hid ho7; have B7 := Lib.hid (HBd.out.trans (hb7.mono HBd.out.size)); have O7 := Lib.hid (HOd.out.below hb7); have k7 := HCB.out _ B7.out; have hm7 : m7 ≤ 4 := (by have h1 := ho7.len; have h2 := dlm_len (n' : Int); omega); have hs7 := B7.out.size; clear ho7 hb7)
            | (refine step_app rfl _ _ 22 rfl 5 j0 _ .u8 Try.underlying22 HY8.out.1 HY8.out.2.1 HY8.out.2.2.1 (by rw [HY8.out.2.2.2]; omega) rfl rfl rfl O7.out D7.out.rd (by omega) (by omega) ?_; intro A8 c8 w8 ho8 hb8; have O8 := Lib.hid ho8; have B8 := Lib.hid (B7.out.trans hb8); have k8 := HCB.out _ B8.out; have hs8 := B8.out.size; clear ho8 hb8)
            | (refine step_app rfl _ _ 22 rfl 5 j0 _ .u8 Try.underlying22 HY8.out.1 HY8.out.2.1 HY8.out.2.2.1 (by rw [HY8.out.2.2.2]; omega) rfl rfl rfl O8.out (HDB.out _ B8.out) (by omega) (by omega) ?_; intro A9 c9 w9 ho9 hb9; have O9 := Lib.hid ho9; have B9 := Lib.hid (B8.out.trans hb9); have k9 := HCB.out _ B9.out; have hs9 := B9.out.size; clear ho9 hb9))
          clear k0 k7 k8 k9 HOd HO O7 O8 D7
          obtain ⟨M, hM⟩ : ∃ M, (ms.take k).flatMap sfr ++ dlm (n' : Int) ++ y = M := ⟨_, rfl⟩
          have HM := Lib.hid hM
          rw [hM] at O9
          obtain ⟨q, hq⟩ : ∃ q, m + m7 + n' = q := ⟨_, rfl⟩
          have HQL := Lib.hid (show M.length = q by rw [← hq]; have h1 := O9.out.len; exact h1)
          rw [hq] at O9 ⊢
          obtain ⟨pad, hpad⟩ : ∃ pad : Nat, (sub (n' : Int)).toNat - 4 - n' = pad := ⟨_, rfl⟩
          have hp := sub_in (n := (n' : Int)) (by omega)
          have hp3 : pad ≤ 3 := by omega
          have HP := Lib.hid hpad
          have HSF := Lib.hid (show (ms.take (k + 1)).flatMap sfr = M ++ List.replicate pad 0 by rw [HY.out, flat_snoc, ← HM.out]; unfold sfr; rw [HDL.out, HP.out]; simp only [List.append_assoc])
          have HQP := Lib.hid (show (q + pad) % 4 = 0 by have h1 := flat_four (ms.take (k + 1)) (by rw [HY.out]; intro f hf; rcases List.mem_append.1 hf with hf | hf; exact HAL.out f hf; obtain rfl : f = y := (by simpa using hf); rw [HDL.out]; exact hn2); rw [HSF.out, List.length_append, List.length_replicate, HQL.out] at h1; exact h1)
          have hqr : q ≤ 1836 := by omega
          clear hpad hp hM hq
          go_wp2_with fail
          go_loopw [3] (fun s w5 => ∃ (j c5 : Nat) (A5 : Option Addr), s = .slice A5 (q + j) c5 ∧ j ≤ pad ∧ Ow 5 .u8 w5 w.heap.size w5.heap.size A5 (q + j) c5 (M ++ List.replicate j 0) ∧ Below w.heap.size w w5) (fun s _ => match s with | .slice _ l _ => q + pad - l | _ => 0)
          case atStart => exact ⟨0, _, _, rfl, by omega, by have hh := O9.out; simpa using hh, B9.out⟩
          case round =>
            obtain ⟨j, c5, A5, rfl, hj, ho, hb⟩ := hrel
            have HO5 := Lib.hid ho
            have HB5 := Lib.hid hb
            have hbs5 := hb.size
            have hcp5 := ho.rd.cap_
            clear ho hb
            by_cases hz : (q + j) % 4 = 0
            · have hjp : j = pad := by have := HQP.out; omega
              subst hjp
              have hzI : ((q + j : Nat) : Int) % 4 = 0 := by omega
              have hzT : ((q + j : Nat) : Int).tmod 4 = 0 := by rw [Int.tmod_eq_emod_of_nonneg (by omega)]; exact hzI
              obtain ⟨u, hu⟩ : ∃ u, q + j = u := ⟨_, rfl⟩
              rw [hu] at hzI hzT HO5 hcp5 ⊢
              go_wp2_with fail
              go_roundw
              case rel => exact ⟨k + 1, u, c5, A5, rfl, by go_num, by omega, fun _ => by omega, by rw [HY.out]; intro f hf; rcases List.mem_append.1 hf with hf | hf; exact HAL.out f hf; obtain rfl : f = y := (by simpa using hf); rw [HDL.out]; exact hn2, by rw [HSF.out]; exact HO5.out, HB5.out⟩
              case measure => simp [intOf]; omega
            · have hjp : j < pad := by have := HQP.out; omega
              have hzI : ¬ ((q + j : Nat) : Int) % 4 = 0 := by omega
              have hzT : ¬ ((q + j : Nat) : Int).tmod 4 = 0 := by rw [Int.tmod_eq_emod_of_nonneg (by omega)]; exact hzI
              have HW0 := Lib.hid (show (Lit.int .u8 0).wf = true from WalkArith.wf_u8 (by omega))
              have hq5 : q + j ≤ 2000 := by omega
              obtain ⟨u, hu⟩ : ∃ u, q + j = u := ⟨_, rfl⟩
              have HU := Lib.hid hu
              rw [hu] at hzI hzT HO5 hcp5 hq5 ⊢
              clear hu
              go_wp2_with (at_builtin; refine wpList_app _ rfl _ _ 22 rfl 5 j0 _ .u8 Try.underlying22 HY8.out.1 HY8.out.2.1 HY8.out.2.2.1 (by rw [HY8.out.2.2.2]; omega) rfl rfl rfl (HO5.out.alloc _) (Rd.one .u8 _ _ 0 HW0.out) (by omega) (by simp; omega) ?_; intro A6 c6 w6 ho6 hb6; have HO6 := Lib.hid ho6; have HB6 := Lib.hid ((HB5.out.alloc hbs5 _).trans hb6); clear ho6 hb6)
              go_roundw
              case rel => exact ⟨j + 1, c6, A6, by rw [← HU.out]; rfl, by omega, by rw [rep_snoc, ← List.append_assoc, ← Nat.add_assoc, HU.out]; exact HO6.out, HB6.out⟩
              case measure => have := HU.out; simp; omega
    · have hlt2 : ¬ (k : Int) < n := by omega
      obtain rfl : k = n := by omega
      have HF := Lib.hid (show ms.take k = ms from List.take_of_length_le (by rw [HL.out]; exact Nat.le_refl _))
      have HE := Lib.hid (show agg ms = ms.flatMap sfr from agg_yes (by rw [HL.out]; by_cases h0 : 0 < k; exact HK8.out h0; omega) (by have hh := HAL.out; rw [HF.out] at hh; exact hh))
      go_wp2_with fail
      go_ret
      exact ⟨_, _, _, rfl, by have hh := HO.out; rw [HF.out, ← HE.out] at hh; exact hh, HB.out⟩
end Go.Proofs.Ythgbmcdfbinpkaa.ag
