/- EqualQueues of both sides. Condition: none. -/
import Derived.Test.YtbifggfmfiocoaaQc9
import Derived.Test.YtbifggfmfiocoaaEq
namespace Go.Proofs.Ytbifggfmfiocoaa.mq
open Go.RowKit sl harn bx mrw
set_option linter.unusedVariables false
set_option linter.unusedSimpArgs false

theorem msg_eq (x y : Msg) (v : Bool) (h1 : x.1 = y.1) (h2 : x.2.1 = y.2.1) (h3 : x.2.2.1 = y.2.2.1) (h4 : decide (x.2.2.2 = y.2.2.2) = v) : decide (x = y) = v := by
  obtain ⟨a, b, c, d⟩ := x
  obtain ⟨a2, b2, c2, d2⟩ := y
  simp only at h1 h2 h3 h4
  subst h1 h2 h3
  rw [← h4]
  simp
theorem msg_ne1 (x y : Msg) (h : ¬ x.1 = y.1) : decide (x = y) = false := decide_eq_false fun e => h (by rw [e])
theorem msg_ne2 (x y : Msg) (h : ¬ x.2.1 = y.2.1) : decide (x = y) = false := decide_eq_false fun e => h (by rw [e])
theorem msg_ne3 (x y : Msg) (h : ¬ x.2.2.1 = y.2.2.1) : decide (x = y) = false := decide_eq_false fun e => h (by rw [e])
theorem ms_ne {a b : List Msg} {k : Nat} {x y : Msg} (h1 : a[k]? = some x) (h2 : b[k]? = some y) (h : decide (x = y) = false) : decide (a = b) = false := decide_eq_false fun e => (of_decide_eq_false h) (by rw [e] at h1; exact Option.some.inj (h1.symm.trans h2))
theorem ms_step {a b : List Msg} {k : Nat} {x y : Msg} (h0 : a.take k = b.take k) (h1 : a[k]? = some x) (h2 : b[k]? = some y) (h : decide (x = y) = true) : a.take (k + 1) = b.take (k + 1) := by
  rw [take_snoc h1, take_snoc h2, h0, of_decide_eq_true h]
theorem ms_all {a b : List Msg} {n : Nat} (ha : a.length = n) (hb : b.length = n) (h : a.take n = b.take n) : decide (a = b) = true := by
  rw [List.take_of_length_le (by omega), List.take_of_length_le (by omega)] at h
  exact decide_eq_true h
theorem ms_len {a b : List Msg} {n m : Nat} (ha : a.length = n) (hb : b.length = m) (h : ¬ n = m) : decide (a = b) = false := decide_eq_false fun e => h (by rw [← ha, ← hb, e])
theorem q_ne {a b : List Msg} {d e : Int} (h : ¬ d = e) : (decide (a = b) && decide (d = e)) = false := by rw [decide_eq_false h, Bool.and_false]
theorem q_eq {a b : List Msg} {d e : Int} {v : Bool} (h : d = e) (hv : decide (a = b) = v) : (decide (a = b) && decide (d = e)) = v := by rw [decide_eq_true h, Bool.and_true, hv]
set_option maxRecDepth 100000 in
set_option maxHeartbeats 4000000 in
theorem implMe (x y : Msg) (A : Option Addr) (n c : Nat) (A' : Option Addr) (n' c' : Nat) (lo hi lo2 hi2 : Nat) (w : World) (h : Rd .u8 w lo hi A n c x.2.2.2) (h2 : Rd .u8 w lo2 hi2 A' n' c' y.2.2.2) :
    Calls Try.prog 54 #[mV x A n c, mV y A' n' c'] w (BPost (decide (x = y)) w) := by
  have PW := Lib.hid h
  have RW := Lib.hid h2
  have qa := h.hi_
  have qb := h2.hi_
  clear h h2
  go_enter Try.func54, Try.ntmps54
  go_upto_region 1 with fail
  obtain ⟨w0, hW⟩ : ∃ w0, (w.alloc (.cells #[.int .i64 x.1, .int .i64 x.2.1, .int .i64 x.2.2.1, .slice A n c] 28)).alloc (.cells #[.int .i64 y.1, .int .i64 y.2.1, .int .i64 y.2.2.1, .slice A' n' c'] 28) = w0 := ⟨_, rfl⟩
  rw [hW]
  have B0 := Lib.hid (show Below w.heap.size w w0 by rw [← hW]; exact ((Below.refl _ _).alloc (by simp <;> omega) _).alloc (by simp <;> omega) _)
  have X0 := Lib.hid (show Bx 28 w0 (w.heap.size) #[.int .i64 x.1, .int .i64 x.2.1, .int .i64 x.2.2.1, .slice A n c] by
      rw [← hW]
      have hh := Bx.made 28 w #[.int .i64 x.1, .int .i64 x.2.1, .int .i64 x.2.2.1, .slice A n c]
      exact (hh.below (below_box _ _)))
  have Y0 := Lib.hid (show Bx 28 w0 (w.heap.size + 1) #[.int .i64 y.1, .int .i64 y.2.1, .int .i64 y.2.2.1, .slice A' n' c'] by
      rw [← hW]
      have hh : Bx 28 ((w.alloc (.cells #[.int .i64 x.1, .int .i64 x.2.1, .int .i64 x.2.2.1, .slice A n c] 28)).alloc (.cells #[.int .i64 y.1, .int .i64 y.2.1, .int .i64 y.2.2.1, .slice A' n' c'] 28)) (w.heap.size + 1) #[.int .i64 y.1, .int .i64 y.2.1, .int .i64 y.2.2.1, .slice A' n' c'] := by have hh := Bx.made 28 (w.alloc (.cells #[.int .i64 x.1, .int .i64 x.2.1, .int .i64 x.2.2.1, .slice A n c] 28)) #[.int .i64 y.1, .int .i64 y.2.1, .int .i64 y.2.2.1, .slice A' n' c']; simpa using hh
      exact hh)
  have P0 := Lib.hid (show Rd .u8 w0 (lo) (hi) A n c x.2.2.2 by rw [← hW]; exact ((PW.out.below (below_box _ _)).below (below_box _ _)))
  have R0 := Lib.hid (show Rd .u8 w0 (lo2) (hi2) A' n' c' y.2.2.2 by rw [← hW]; exact ((RW.out.below (below_box _ _)).below (below_box _ _)))
  clear hW
  have LTX := Lib.hid X0.out.lt
  have LTY := Lib.hid Y0.out.lt
  by_cases h1 : x.1 = y.1
  · by_cases h2 : x.2.1 = y.2.1
    · by_cases h3 : x.2.2.1 = y.2.2.1
      · have cX0 : w0.cell? ⟨w.heap.size, 0, none⟩ = some (.int .i64 x.1) := X0.out.cell 0
        have cX1 : w0.cell? ⟨w.heap.size, 1, none⟩ = some (.int .i64 x.2.1) := X0.out.cell 1
        have cX2 : w0.cell? ⟨w.heap.size, 2, none⟩ = some (.int .i64 x.2.2.1) := X0.out.cell 2
        have cX3 : w0.cell? ⟨w.heap.size, 3, none⟩ = some (.slice A n c) := X0.out.cell 3
        have cY0 : w0.cell? ⟨w.heap.size + 1, 0, none⟩ = some (.int .i64 y.1) := Y0.out.cell 0
        have cY1 : w0.cell? ⟨w.heap.size + 1, 1, none⟩ = some (.int .i64 y.2.1) := Y0.out.cell 1
        have cY2 : w0.cell? ⟨w.heap.size + 1, 2, none⟩ = some (.int .i64 y.2.2.1) := Y0.out.cell 2
        have cY3 : w0.cell? ⟨w.heap.size + 1, 3, none⟩ = some (.slice A' n' c') := Y0.out.cell 3
        go_wp2_with fail
        (with_reducible refine (eqs.implEqB x.2.2.2 y.2.2.2 _ _ _ _ A A' n c n' c' _ P0.out R0.out).mono ?_)
        rintro e w1 ⟨rfl, hb⟩
        have B1 := Lib.hid (B0.out.trans (hb.mono B0.out.size))
        clear hb
        obtain ⟨v, hv⟩ : ∃ v, decide (x.2.2.2 = y.2.2.2) = v := ⟨_, rfl⟩
        have HE := Lib.hid (msg_eq x y v h1 h2 h3 hv)
        rw [hv]
        clear hv
        go_wp2_with fail
        go_ret
        exact ⟨by rw [HE.out]; try rfl, B1.out⟩
      · have cX0 : w0.cell? ⟨w.heap.size, 0, none⟩ = some (.int .i64 x.1) := X0.out.cell 0
        have cX1 : w0.cell? ⟨w.heap.size, 1, none⟩ = some (.int .i64 x.2.1) := X0.out.cell 1
        have cX2 : w0.cell? ⟨w.heap.size, 2, none⟩ = some (.int .i64 x.2.2.1) := X0.out.cell 2
        have cX3 : w0.cell? ⟨w.heap.size, 3, none⟩ = some (.slice A n c) := X0.out.cell 3
        have cY0 : w0.cell? ⟨w.heap.size + 1, 0, none⟩ = some (.int .i64 y.1) := Y0.out.cell 0
        have cY1 : w0.cell? ⟨w.heap.size + 1, 1, none⟩ = some (.int .i64 y.2.1) := Y0.out.cell 1
        have cY2 : w0.cell? ⟨w.heap.size + 1, 2, none⟩ = some (.int .i64 y.2.2.1) := Y0.out.cell 2
        have cY3 : w0.cell? ⟨w.heap.size + 1, 3, none⟩ = some (.slice A' n' c') := Y0.out.cell 3
        have HE := Lib.hid (msg_ne3 x y h3)
        go_wp2_with fail
        go_ret
        exact ⟨by rw [HE.out]; try rfl, B0.out⟩
    · have cX0 : w0.cell? ⟨w.heap.size, 0, none⟩ = some (.int .i64 x.1) := X0.out.cell 0
      have cX1 : w0.cell? ⟨w.heap.size, 1, none⟩ = some (.int .i64 x.2.1) := X0.out.cell 1
      have cX2 : w0.cell? ⟨w.heap.size, 2, none⟩ = some (.int .i64 x.2.2.1) := X0.out.cell 2
      have cX3 : w0.cell? ⟨w.heap.size, 3, none⟩ = some (.slice A n c) := X0.out.cell 3
      have cY0 : w0.cell? ⟨w.heap.size + 1, 0, none⟩ = some (.int .i64 y.1) := Y0.out.cell 0
      have cY1 : w0.cell? ⟨w.heap.size + 1, 1, none⟩ = some (.int .i64 y.2.1) := Y0.out.cell 1
      have cY2 : w0.cell? ⟨w.heap.size + 1, 2, none⟩ = some (.int .i64 y.2.2.1) := Y0.out.cell 2
      have cY3 : w0.cell? ⟨w.heap.size + 1, 3, none⟩ = some (.slice A' n' c') := Y0.out.cell 3
      have HE := Lib.hid (msg_ne2 x y h2)
      go_wp2_with fail
      go_ret
      exact ⟨by rw [HE.out]; try rfl, B0.out⟩
  · have cX0 : w0.cell? ⟨w.heap.size, 0, none⟩ = some (.int .i64 x.1) := X0.out.cell 0
    have cX1 : w0.cell? ⟨w.heap.size, 1, none⟩ = some (.int .i64 x.2.1) := X0.out.cell 1
    have cX2 : w0.cell? ⟨w.heap.size, 2, none⟩ = some (.int .i64 x.2.2.1) := X0.out.cell 2
    have cX3 : w0.cell? ⟨w.heap.size, 3, none⟩ = some (.slice A n c) := X0.out.cell 3
    have cY0 : w0.cell? ⟨w.heap.size + 1, 0, none⟩ = some (.int .i64 y.1) := Y0.out.cell 0
    have cY1 : w0.cell? ⟨w.heap.size + 1, 1, none⟩ = some (.int .i64 y.2.1) := Y0.out.cell 1
    have cY2 : w0.cell? ⟨w.heap.size + 1, 2, none⟩ = some (.int .i64 y.2.2.1) := Y0.out.cell 2
    have cY3 : w0.cell? ⟨w.heap.size + 1, 3, none⟩ = some (.slice A' n' c') := Y0.out.cell 3
    have HE := Lib.hid (msg_ne1 x y h1)
    go_wp2_with fail
    go_ret
    exact ⟨by rw [HE.out]; try rfl, B0.out⟩
set_option maxRecDepth 100000 in
set_option maxHeartbeats 4000000 in
theorem eqFn (ms ms2 : List Msg) (A : Option Addr) (n cap lo hi : Nat) (A2 : Option Addr) (n2 cap2 lo2 hi2 : Nat) (w : World) (h : Rq msg w lo hi A n cap ms) (h2 : Rq msg w lo2 hi2 A2 n2 cap2 ms2) :
    Calls Try.prog 53 #[.slice A n cap, .slice A2 n2 cap2, .func (.func 54) #[] #[]] w (BPost (decide (ms = ms2)) w) := by
  have QW := Lib.hid h
  have RW := Lib.hid h2
  have qa := h.hi_
  have qb := h2.hi_
  have qc := h.cap_
  have qd := h2.cap_
  have HL1 := Lib.hid h.len
  have HL2 := Lib.hid h2.len
  clear h h2
  go_enter Try.func53, Try.ntmps53
  by_cases hne : n = n2
  · subst hne
    have B0 := Lib.hid (Below.refl w.heap.size w)
    have Q0 := QW
    have R0 := RW
    go_wp2_with fail
    go_loopw [17] (fun v0 wr => ∃ (k : Nat), v0 = .int .i64 ((k : Int)) ∧ (k ≤ n) ∧ (ms.take k = ms2.take k) ∧ Below w.heap.size w wr ∧ Rq msg wr lo hi A n cap ms ∧ Rq msg wr lo2 hi2 A2 n cap2 ms2) (fun i _ => n - (intOf i).toNat)
    case atStart => exact ⟨0, rfl, by omega, by simp, B0.out, Q0.out, R0.out⟩
    case round =>
      obtain ⟨k, rfl, ghk, ghe, gB1, gQ1, gR1⟩ := hrel
      have B1 := Lib.hid gB1
      have Q1 := Lib.hid gQ1
      have R1 := Lib.hid gR1
      have hk := Lib.hid ghk
      have he := Lib.hid ghe
      clear gB1 gQ1 gR1 ghk ghe
      have hk := hk.out
      by_cases hlt : k < n
      · have hlt2 : (k : Int) < n := by omega
        obtain ⟨b, off, y, hA, hy, h1, h2, A', n', c', hd, ce0, ce1, ce2, ce3⟩ := at_ Q1.out hlt
        have HY := Lib.hid hy
        have D1 := Lib.hid hd
        clear hy hd
        subst hA
        go_upto_region 6 with fail
        clear ce0 ce1 ce2 ce3
        obtain ⟨bv, hbb⟩ : ∃ b, wr.heap.size = b := ⟨_, rfl⟩
        generalize hW : wr.alloc (.cells #[.int .i64 y.1, .int .i64 y.2.1, .int .i64 y.2.2.1, .slice A' n' c'] 28) = w2
        have LV := Lib.hid (show w.heap.size ≤ bv ∧ hi ≤ bv ∧ hi2 ≤ bv ∧ hi ≤ bv by have h1 := B1.out.size; have h2Q := Q1.out.hi_; have h2R := R1.out.hi_; have h2D := D1.out.hi_; have h3 := hbb; omega)
        have V2 := Lib.hid (show Bx 28 w2 bv #[.int .i64 y.1, .int .i64 y.2.1, .int .i64 y.2.2.1, .slice A' n' c'] by rw [← hW, ← hbb]; exact Bx.made _ _ _)
        have hb : Below wr.heap.size wr w2 := by rw [← hW]; exact below_box _ _
        (try rw [hbb])
        clear hW hbb
        have SS2 := Lib.hid hb.size
        have B2 := Lib.hid (B1.out.trans (hb.mono B1.out.size))
        have Q2 := Lib.hid (Q1.out.below hb)
        have R2 := Lib.hid (R1.out.below hb)
        have D2 := Lib.hid (D1.out.below hb)
        clear hb B1 Q1 R1 D1
        have LWV := Lib.hid V2.out.lt
        obtain ⟨bx, offx, x, hAx, hyx, h1x, h2x, Ax', nx', cx', hdx, ce0x, ce1x, ce2x, ce3x⟩ := at_ R2.out hlt
        have HYx := Lib.hid hyx
        have E2 := Lib.hid hdx
        clear hyx hdx
        subst hAx
        go_upto_region 7 with fail
        clear ce0x ce1x ce2x ce3x
        obtain ⟨bu, hbb⟩ : ∃ b, w2.heap.size = b := ⟨_, rfl⟩
        generalize hW : w2.alloc (.cells #[.int .i64 x.1, .int .i64 x.2.1, .int .i64 x.2.2.1, .slice Ax' nx' cx'] 28) = w3
        have LU := Lib.hid (show w.heap.size ≤ bu ∧ bv < bu ∧ hi ≤ bu ∧ hi2 ≤ bu ∧ hi ≤ bu ∧ hi2 ≤ bu by have h1 := B2.out.size; have h2V := V2.out.lt; have h2Q := Q2.out.hi_; have h2R := R2.out.hi_; have h2D := D2.out.hi_; have h2E := E2.out.hi_; have h3 := hbb; omega)
        have U3 := Lib.hid (show Bx 28 w3 bu #[.int .i64 x.1, .int .i64 x.2.1, .int .i64 x.2.2.1, .slice Ax' nx' cx'] by rw [← hW, ← hbb]; exact Bx.made _ _ _)
        have hb : Below w2.heap.size w2 w3 := by rw [← hW]; exact below_box _ _
        (try rw [hbb])
        clear hW hbb
        have SS3 := Lib.hid hb.size
        have B3 := Lib.hid (B2.out.trans (hb.mono B2.out.size))
        have V3 := Lib.hid (V2.out.below hb)
        have Q3 := Lib.hid (Q2.out.below hb)
        have R3 := Lib.hid (R2.out.below hb)
        have D3 := Lib.hid (D2.out.below hb)
        have E3 := Lib.hid (E2.out.below hb)
        clear hb B2 V2 Q2 R2 D2 E2
        have LWU := Lib.hid U3.out.lt
        have cV0 : w3.cell? ⟨bv, 0, none⟩ = some (.int .i64 y.1) := V3.out.cell 0
        have cV1 : w3.cell? ⟨bv, 1, none⟩ = some (.int .i64 y.2.1) := V3.out.cell 1
        have cV2 : w3.cell? ⟨bv, 2, none⟩ = some (.int .i64 y.2.2.1) := V3.out.cell 2
        have cV3 : w3.cell? ⟨bv, 3, none⟩ = some (.slice A' n' c') := V3.out.cell 3
        have cU0 : w3.cell? ⟨bu, 0, none⟩ = some (.int .i64 x.1) := U3.out.cell 0
        have cU1 : w3.cell? ⟨bu, 1, none⟩ = some (.int .i64 x.2.1) := U3.out.cell 1
        have cU2 : w3.cell? ⟨bu, 2, none⟩ = some (.int .i64 x.2.2.1) := U3.out.cell 2
        have cU3 : w3.cell? ⟨bu, 3, none⟩ = some (.slice Ax' nx' cx') := U3.out.cell 3
        go_wp2_with fail
        clear cV0 cV1 cV2 cV3 cU0 cU1 cU2 cU3
        obtain ⟨v, hv⟩ : ∃ v, decide (y = x) = v := ⟨_, rfl⟩
        have HV := Lib.hid hv
        clear hv
        (with_reducible refine (implMe y x A' n' c' Ax' nx' cx' _ _ _ _ _ D3.out E3.out).mono ?_)
        rintro e w4 hp
        obtain ⟨rfl, hb⟩ := b_parts HV.out hp
        clear hp
        have SS4 := Lib.hid hb.size
        have B4 := Lib.hid (B3.out.trans (hb.mono B3.out.size))
        have V4 := Lib.hid (V3.out.below hb)
        have U4 := Lib.hid (U3.out.below hb)
        have Q4 := Lib.hid (Q3.out.below hb)
        have R4 := Lib.hid (R3.out.below hb)
        have D4 := Lib.hid (D3.out.below hb)
        have E4 := Lib.hid (E3.out.below hb)
        clear hb  B3 V3 U3 Q3 R3 D3 E3
        cases v with
        | true =>
          have HT := Lib.hid (ms_step he.out HY.out HYx.out HV.out)
          go_wp2_with fail
          go_roundw
          case rel => exact ⟨k + 1, by go_num, by omega, HT.out, B4.out, Q4.out, R4.out⟩
          case measure => simp [intOf]; omega
        | false =>
          have HE := Lib.hid (ms_ne HY.out HYx.out HV.out)
          go_wp2_with fail
          go_ret
          exact ⟨by rw [HE.out]; try rfl, B4.out⟩
      · have hlt2 : ¬ (k : Int) < n := by omega
        obtain rfl : n = k := by omega
        have HE := Lib.hid (ms_all HL1.out HL2.out he.out)
        go_wp2_with fail
        go_ret
        exact ⟨by rw [HE.out]; try rfl, B1.out⟩
  · have hn2 : ¬ (n : Int) = (n2 : Int) := by omega
    have HE := Lib.hid (ms_len HL1.out HL2.out hne)
    go_wp2_with fail
    go_ret
    exact ⟨by rw [HE.out]; try rfl, Below.refl _ _⟩
set_option maxRecDepth 100000 in
set_option maxHeartbeats 4000000 in
theorem implEq (ms ms2 : List Msg) (d d2 : Int) (A : Option Addr) (n cap lo hi : Nat) (A2 : Option Addr) (n2 cap2 lo2 hi2 : Nat) (w : World) (h : Rq msg w lo hi A n cap ms) (h2 : Rq msg w lo2 hi2 A2 n2 cap2 ms2) :
    Calls Try.prog 18 #[qV A n cap d, qV A2 n2 cap2 d2] w (BPost (decide (ms = ms2) && decide (d = d2)) w) := by
  have HB := Lib.hid (below_box2 w (.cells #[.slice A n cap, .int .i64 d] 26) (.cells #[.slice A2 n2 cap2, .int .i64 d2] 26))
  have HR := Lib.hid (h.below HB.out)
  have HS := Lib.hid (h2.below HB.out)
  clear h h2
  obtain ⟨r, hr⟩ : ∃ r, (decide (ms = ms2) && decide (d = d2)) = r := ⟨_, rfl⟩
  rw [hr]
  go_enter Try.func18, Try.ntmps18
  by_cases hd : d = d2
  · obtain ⟨v, hv⟩ : ∃ v, decide (ms = ms2) = v := ⟨_, rfl⟩
    have HE := Lib.hid (show r = v by rw [← hr]; exact q_eq hd hv)
    have HV := Lib.hid hv
    clear hr hv
    subst hd
    go_wp2_with fail
    (with_reducible refine (eqFn ms ms2 A n cap _ _ A2 n2 cap2 _ _ _ HR.out HS.out).mono ?_)
    rintro e w1 hp
    obtain ⟨rfl, hb⟩ := b_parts HV.out hp
    have B1 := Lib.hid (HB.out.trans (hb.mono HB.out.size))
    clear hb hp
    go_wp2_with fail
    go_ret
    exact ⟨by rw [HE.out]; try rfl, B1.out⟩
  · have HE := Lib.hid (show r = false by rw [← hr]; exact q_ne hd)
    clear hr
    go_wp2_with fail
    go_ret
    exact ⟨by rw [HE.out]; try rfl, HB.out⟩
set_option maxRecDepth 100000 in
set_option maxHeartbeats 4000000 in
theorem specEq (ms ms2 : List Msg) (d d2 : Int) (A : Option Addr) (n cap lo hi : Nat) (A2 : Option Addr) (n2 cap2 lo2 hi2 : Nat) (w : World) (h : Rq msg w lo hi A n cap ms) (h2 : Rq msg w lo2 hi2 A2 n2 cap2 ms2) :
    Calls Try.prog 44 #[qV A n cap d, qV A2 n2 cap2 d2] w (BPost (decide (ms = ms2) && decide (d = d2)) w) := by
  have QW := Lib.hid h
  have RW := Lib.hid h2
  have qa := h.hi_
  have qb := h2.hi_
  have qc := h.cap_
  have qd := h2.cap_
  have HL1 := Lib.hid h.len
  have HL2 := Lib.hid h2.len
  clear h h2
  have HB := Lib.hid (below_box2 w (.cells #[.slice A n cap, .int .i64 d] 26) (.cells #[.slice A2 n2 cap2, .int .i64 d2] 26))
  obtain ⟨r, hr⟩ : ∃ r, (decide (ms = ms2) && decide (d = d2)) = r := ⟨_, rfl⟩
  rw [hr]
  by_cases hd : d = d2
  · have HR2 := Lib.hid (show ∀ v, decide (ms = ms2) = v → r = v from fun v hv => by rw [← hr]; exact q_eq hd hv)
    clear hr
    subst hd
    by_cases hne : n = n2
    · subst hne
      go_enter Try.func44, Try.ntmps44
      go_wp2_with fail
      obtain ⟨w0, hW⟩ : ∃ w0, (w.alloc (.cells #[.slice A n cap, .int .i64 d] 26)).alloc (.cells #[.slice A2 n cap2, .int .i64 d] 26) = w0 := ⟨_, rfl⟩
      rw [hW]
      have B0 := Lib.hid (show Below w.heap.size w w0 by rw [← hW]; exact ((Below.refl _ _).alloc (by simp <;> omega) _).alloc (by simp <;> omega) _)
      have X0 := Lib.hid (show Bx 26 w0 (w.heap.size) #[.slice A n cap, .int .i64 d] by
          rw [← hW]
          have hh := Bx.made 26 w #[.slice A n cap, .int .i64 d]
          exact (hh.below (below_box _ _)))
      have Y0 := Lib.hid (show Bx 26 w0 (w.heap.size + 1) #[.slice A2 n cap2, .int .i64 d] by
          rw [← hW]
          have hh : Bx 26 ((w.alloc (.cells #[.slice A n cap, .int .i64 d] 26)).alloc (.cells #[.slice A2 n cap2, .int .i64 d] 26)) (w.heap.size + 1) #[.slice A2 n cap2, .int .i64 d] := by have hh := Bx.made 26 (w.alloc (.cells #[.slice A n cap, .int .i64 d] 26)) #[.slice A2 n cap2, .int .i64 d]; simpa using hh
          exact hh)
      have Q0 := Lib.hid (show Rq msg w0 lo hi A n cap ms by rw [← hW]; exact ((QW.out.below (below_box _ _)).below (below_box _ _)))
      have R0 := Lib.hid (show Rq msg w0 lo2 hi2 A2 n cap2 ms2 by rw [← hW]; exact ((RW.out.below (below_box _ _)).below (below_box _ _)))
      clear hW
      have LTX := Lib.hid X0.out.lt
      have LTY := Lib.hid Y0.out.lt
      go_loopw [5] (fun v0 wr => ∃ (k : Nat), v0 = .int .i64 ((k : Int)) ∧ (k ≤ n) ∧ (ms.take k = ms2.take k) ∧ Below w.heap.size w wr ∧ Bx 26 wr w.heap.size #[.slice A n cap, .int .i64 d] ∧ Bx 26 wr (w.heap.size + 1) #[.slice A2 n cap2, .int .i64 d] ∧ Rq msg wr lo hi A n cap ms ∧ Rq msg wr lo2 hi2 A2 n cap2 ms2) (fun i _ => n - (intOf i).toNat)
      case atStart => exact ⟨0, rfl, by omega, by simp, B0.out, X0.out, Y0.out, Q0.out, R0.out⟩
      case round =>
        obtain ⟨k, rfl, ghk, ghe, gB1, gX1, gY1, gQ1, gR1⟩ := hrel
        have B1 := Lib.hid gB1
        have X1 := Lib.hid gX1
        have Y1 := Lib.hid gY1
        have Q1 := Lib.hid gQ1
        have R1 := Lib.hid gR1
        have hk := Lib.hid ghk
        have he := Lib.hid ghe
        clear gB1 gX1 gY1 gQ1 gR1 ghk ghe
        have LUX1 := Lib.hid X1.out.lt
        have LUY1 := Lib.hid Y1.out.lt
        have hk := hk.out
        have cX0 : wr.cell? ⟨w.heap.size, 0, none⟩ = some (.slice A n cap) := X1.out.cell 0
        have cY0 : wr.cell? ⟨w.heap.size + 1, 0, none⟩ = some (.slice A2 n cap2) := Y1.out.cell 0
        by_cases hlt : k < n
        · clear cX0 cY0
          have hlt2 : (k : Int) < n := by omega
          obtain ⟨b, off, y, hA, hy, h1, h2, A', n', c', hd, ce0, ce1, ce2, ce3⟩ := at_ Q1.out hlt
          have HY := Lib.hid hy
          have D1 := Lib.hid hd
          clear hy hd
          subst hA
          have cX0 : wr.cell? ⟨w.heap.size, 0, none⟩ = some (.slice (some ⟨b, off, none⟩) n cap) := X1.out.cell 0
          go_upto_region 7 with fail
          clear cX0 ce0 ce1 ce2 ce3
          obtain ⟨bv, hbb⟩ : ∃ b, wr.heap.size = b := ⟨_, rfl⟩
          generalize hW : wr.alloc (.cells #[.int .i64 y.1, .int .i64 y.2.1, .int .i64 y.2.2.1, .slice A' n' c'] 28) = w2
          have LV := Lib.hid (show w.heap.size ≤ bv ∧ w.heap.size < bv ∧ w.heap.size + 1 < bv ∧ hi ≤ bv ∧ hi2 ≤ bv ∧ hi ≤ bv by have h1 := B1.out.size; have h2X := X1.out.lt; have h2Y := Y1.out.lt; have h2Q := Q1.out.hi_; have h2R := R1.out.hi_; have h2D := D1.out.hi_; have h3 := hbb; omega)
          have V2 := Lib.hid (show Bx 28 w2 bv #[.int .i64 y.1, .int .i64 y.2.1, .int .i64 y.2.2.1, .slice A' n' c'] by rw [← hW, ← hbb]; exact Bx.made _ _ _)
          have hb : Below wr.heap.size wr w2 := by rw [← hW]; exact below_box _ _
          (try rw [hbb])
          clear hW hbb
          have SS2 := Lib.hid hb.size
          have B2 := Lib.hid (B1.out.trans (hb.mono B1.out.size))
          have X2 := Lib.hid (X1.out.below hb)
          have Y2 := Lib.hid (Y1.out.below hb)
          have Q2 := Lib.hid (Q1.out.below hb)
          have R2 := Lib.hid (R1.out.below hb)
          have D2 := Lib.hid (D1.out.below hb)
          clear hb B1 X1 Y1 Q1 R1 D1
          have LWV := Lib.hid V2.out.lt
          obtain ⟨bx, offx, x, hAx, hyx, h1x, h2x, Ax', nx', cx', hdx, ce0x, ce1x, ce2x, ce3x⟩ := at_ R2.out hlt
          have HYx := Lib.hid hyx
          have E2 := Lib.hid hdx
          clear hyx hdx
          subst hAx
          have cY0 : w2.cell? ⟨w.heap.size + 1, 0, none⟩ = some (.slice (some ⟨bx, offx, none⟩) n cap2) := Y2.out.cell 0
          go_upto_region 8 with fail
          clear cY0 ce0x ce1x ce2x ce3x
          obtain ⟨bu, hbb⟩ : ∃ b, w2.heap.size = b := ⟨_, rfl⟩
          generalize hW : w2.alloc (.cells #[.int .i64 x.1, .int .i64 x.2.1, .int .i64 x.2.2.1, .slice Ax' nx' cx'] 28) = w3
          have LU := Lib.hid (show w.heap.size ≤ bu ∧ w.heap.size < bu ∧ w.heap.size + 1 < bu ∧ bv < bu ∧ hi ≤ bu ∧ hi2 ≤ bu ∧ hi ≤ bu ∧ hi2 ≤ bu by have h1 := B2.out.size; have h2X := X2.out.lt; have h2Y := Y2.out.lt; have h2V := V2.out.lt; have h2Q := Q2.out.hi_; have h2R := R2.out.hi_; have h2D := D2.out.hi_; have h2E := E2.out.hi_; have h3 := hbb; omega)
          have U3 := Lib.hid (show Bx 28 w3 bu #[.int .i64 x.1, .int .i64 x.2.1, .int .i64 x.2.2.1, .slice Ax' nx' cx'] by rw [← hW, ← hbb]; exact Bx.made _ _ _)
          have hb : Below w2.heap.size w2 w3 := by rw [← hW]; exact below_box _ _
          (try rw [hbb])
          clear hW hbb
          have SS3 := Lib.hid hb.size
          have B3 := Lib.hid (B2.out.trans (hb.mono B2.out.size))
          have X3 := Lib.hid (X2.out.below hb)
          have Y3 := Lib.hid (Y2.out.below hb)
          have V3 := Lib.hid (V2.out.below hb)
          have Q3 := Lib.hid (Q2.out.below hb)
          have R3 := Lib.hid (R2.out.below hb)
          have D3 := Lib.hid (D2.out.below hb)
          have E3 := Lib.hid (E2.out.below hb)
          clear hb B2 X2 Y2 V2 Q2 R2 D2 E2
          have LWU := Lib.hid U3.out.lt
          by_cases g1 : y.1 = x.1
          · by_cases g2 : y.2.1 = x.2.1
            · by_cases g3 : y.2.2.1 = x.2.2.1
              · have cV0 : w3.cell? ⟨bv, 0, none⟩ = some (.int .i64 y.1) := V3.out.cell 0
                have cV1 : w3.cell? ⟨bv, 1, none⟩ = some (.int .i64 y.2.1) := V3.out.cell 1
                have cV2 : w3.cell? ⟨bv, 2, none⟩ = some (.int .i64 y.2.2.1) := V3.out.cell 2
                have cV3 : w3.cell? ⟨bv, 3, none⟩ = some (.slice A' n' c') := V3.out.cell 3
                have cU0 : w3.cell? ⟨bu, 0, none⟩ = some (.int .i64 x.1) := U3.out.cell 0
                have cU1 : w3.cell? ⟨bu, 1, none⟩ = some (.int .i64 x.2.1) := U3.out.cell 1
                have cU2 : w3.cell? ⟨bu, 2, none⟩ = some (.int .i64 x.2.2.1) := U3.out.cell 2
                have cU3 : w3.cell? ⟨bu, 3, none⟩ = some (.slice Ax' nx' cx') := U3.out.cell 3
                go_wp2_with fail
                clear cV0 cV1 cV2 cV3 cU0 cU1 cU2 cU3
                obtain ⟨v, hv⟩ : ∃ v, decide (y.2.2.2 = x.2.2.2) = v := ⟨_, rfl⟩
                have HV := Lib.hid (msg_eq y x v g1 g2 g3 hv)
                have HVV := Lib.hid hv
                clear hv
                (with_reducible refine (eqs.specEqB y.2.2.2 x.2.2.2 _ _ _ _ A' Ax' n' c' nx' cx' _ D3.out E3.out).mono ?_)
                skip
                skip
                rintro e w4 ⟨rfl, hb⟩
                rw [HVV.out]
                have SS4 := Lib.hid hb.size
                have B4 := Lib.hid (B3.out.trans (hb.mono B3.out.size))
                have X4 := Lib.hid (X3.out.below hb)
                have Y4 := Lib.hid (Y3.out.below hb)
                have V4 := Lib.hid (V3.out.below hb)
                have U4 := Lib.hid (U3.out.below hb)
                have Q4 := Lib.hid (Q3.out.below hb)
                have R4 := Lib.hid (R3.out.below hb)
                have D4 := Lib.hid (D3.out.below hb)
                have E4 := Lib.hid (E3.out.below hb)
                clear hb B3 X3 Y3 V3 U3 Q3 R3 D3 E3
                cases v with
                | true =>
                  have HT := Lib.hid (ms_step he.out HY.out HYx.out HV.out)
                  go_wp2_with fail
                  go_roundw
                  case rel => exact ⟨k + 1, by go_num, by omega, HT.out, B4.out, X4.out, Y4.out, Q4.out, R4.out⟩
                  case measure => simp [intOf]; omega
                | false =>
                  have HE := Lib.hid (HR2.out _ (ms_ne HY.out HYx.out HV.out))
                  go_wp2_with fail
                  go_ret
                  exact ⟨by rw [HE.out]; try rfl, B4.out⟩
              · have cV0 : w3.cell? ⟨bv, 0, none⟩ = some (.int .i64 y.1) := V3.out.cell 0
                have cV1 : w3.cell? ⟨bv, 1, none⟩ = some (.int .i64 y.2.1) := V3.out.cell 1
                have cV2 : w3.cell? ⟨bv, 2, none⟩ = some (.int .i64 y.2.2.1) := V3.out.cell 2
                have cV3 : w3.cell? ⟨bv, 3, none⟩ = some (.slice A' n' c') := V3.out.cell 3
                have cU0 : w3.cell? ⟨bu, 0, none⟩ = some (.int .i64 x.1) := U3.out.cell 0
                have cU1 : w3.cell? ⟨bu, 1, none⟩ = some (.int .i64 x.2.1) := U3.out.cell 1
                have cU2 : w3.cell? ⟨bu, 2, none⟩ = some (.int .i64 x.2.2.1) := U3.out.cell 2
                have cU3 : w3.cell? ⟨bu, 3, none⟩ = some (.slice Ax' nx' cx') := U3.out.cell 3
                have HE := Lib.hid (HR2.out _ (ms_ne HY.out HYx.out (msg_ne3 y x g3)))
                go_wp2_with fail
                go_ret
                exact ⟨by rw [HE.out]; try rfl, B3.out⟩
            · have cV0 : w3.cell? ⟨bv, 0, none⟩ = some (.int .i64 y.1) := V3.out.cell 0
              have cV1 : w3.cell? ⟨bv, 1, none⟩ = some (.int .i64 y.2.1) := V3.out.cell 1
              have cV2 : w3.cell? ⟨bv, 2, none⟩ = some (.int .i64 y.2.2.1) := V3.out.cell 2
              have cV3 : w3.cell? ⟨bv, 3, none⟩ = some (.slice A' n' c') := V3.out.cell 3
              have cU0 : w3.cell? ⟨bu, 0, none⟩ = some (.int .i64 x.1) := U3.out.cell 0
              have cU1 : w3.cell? ⟨bu, 1, none⟩ = some (.int .i64 x.2.1) := U3.out.cell 1
              have cU2 : w3.cell? ⟨bu, 2, none⟩ = some (.int .i64 x.2.2.1) := U3.out.cell 2
              have cU3 : w3.cell? ⟨bu, 3, none⟩ = some (.slice Ax' nx' cx') := U3.out.cell 3
              have HE := Lib.hid (HR2.out _ (ms_ne HY.out HYx.out (msg_ne2 y x g2)))
              go_wp2_with fail
              go_ret
              exact ⟨by rw [HE.out]; try rfl, B3.out⟩
          · have cV0 : w3.cell? ⟨bv, 0, none⟩ = some (.int .i64 y.1) := V3.out.cell 0
            have cV1 : w3.cell? ⟨bv, 1, none⟩ = some (.int .i64 y.2.1) := V3.out.cell 1
            have cV2 : w3.cell? ⟨bv, 2, none⟩ = some (.int .i64 y.2.2.1) := V3.out.cell 2
            have cV3 : w3.cell? ⟨bv, 3, none⟩ = some (.slice A' n' c') := V3.out.cell 3
            have cU0 : w3.cell? ⟨bu, 0, none⟩ = some (.int .i64 x.1) := U3.out.cell 0
            have cU1 : w3.cell? ⟨bu, 1, none⟩ = some (.int .i64 x.2.1) := U3.out.cell 1
            have cU2 : w3.cell? ⟨bu, 2, none⟩ = some (.int .i64 x.2.2.1) := U3.out.cell 2
            have cU3 : w3.cell? ⟨bu, 3, none⟩ = some (.slice Ax' nx' cx') := U3.out.cell 3
            have HE := Lib.hid (HR2.out _ (ms_ne HY.out HYx.out (msg_ne1 y x g1)))
            go_wp2_with fail
            go_ret
            exact ⟨by rw [HE.out]; try rfl, B3.out⟩
        · have hlt2 : ¬ (k : Int) < n := by omega
          obtain rfl : n = k := by omega
          have HE := Lib.hid (HR2.out _ (ms_all HL1.out HL2.out he.out))
          go_wp2_with fail
          go_ret
          exact ⟨by rw [HE.out]; try rfl, B1.out⟩
    · have hn2 : ¬ (n : Int) = (n2 : Int) := by omega
      have HE := Lib.hid (HR2.out _ (ms_len HL1.out HL2.out hne))
      go_enter Try.func44, Try.ntmps44
      go_wp2_with fail
      go_ret
      exact ⟨by rw [HE.out]; try rfl, HB.out⟩
  · have HE := Lib.hid (show r = false by rw [← hr]; exact q_ne hd)
    clear hr
    go_enter Try.func44, Try.ntmps44
    go_wp2_with fail
    go_ret
    exact ⟨by rw [HE.out]; try rfl, HB.out⟩
end Go.Proofs.Ytbifggfmfiocoaa.mq
