/- EqualReassemblies of both sides. Condition: none. -/
import Derived.Test.YtjmenbpalihnnaaRa4
import Derived.Test.YtjmenbpalihnnaaEq
namespace Go.Proofs.Ytjmenbpalihnnaa.fr
open Go.RowKit sl harn bx mrw drk stw
set_option linter.unusedVariables false
set_option linter.unusedSimpArgs false
open ux (Rea Fra rea fra)
open bx

instance : DecidableEq Rea := fun x y => decidable_of_iff (x.From = y.From ∧ x.Seq = y.Seq ∧ x.Next = y.Next ∧ x.Body = y.Body ∧ x.Started = y.Started) ⟨fun h => by obtain ⟨a, b, c, d, e⟩ := x; obtain ⟨a2, b2, c2, d2, e2⟩ := y; simp only at h; obtain ⟨rfl, rfl, rfl, rfl, rfl⟩ := h; rfl, fun h => by subst h; exact ⟨rfl, rfl, rfl, rfl, rfl⟩⟩
theorem rea_ne {x y : Rea} (h : x.From = y.From → x.Seq = y.Seq → x.Next = y.Next → x.Started = y.Started → x.Body ≠ y.Body) : decide (x = y) = false := decide_eq_false fun e => by subst e; exact h rfl rfl rfl rfl rfl
theorem rea_eq {x y : Rea} {v : Bool} (h1 : x.From = y.From) (h2 : x.Seq = y.Seq) (h3 : x.Next = y.Next) (h4 : x.Started = y.Started) (hv : decide (x.Body = y.Body) = v) : decide (x = y) = v := by
  obtain ⟨a, b, c, d, e⟩ := x
  obtain ⟨a2, b2, c2, d2, e2⟩ := y
  simp only at h1 h2 h3 h4
  subst h1 h2 h3 h4
  rw [← hv]; simp
theorem rs_ne {a b : List Rea} {k : Nat} {x y : Rea} (h1 : a[k]? = some x) (h2 : b[k]? = some y) (h : decide (x = y) = false) : decide (a = b) = false := decide_eq_false fun e => (of_decide_eq_false h) (by rw [e] at h1; exact Option.some.inj (h1.symm.trans h2))
theorem rs_step {a b : List Rea} {k : Nat} {x y : Rea} (h0 : a.take k = b.take k) (h1 : a[k]? = some x) (h2 : b[k]? = some y) (h : decide (x = y) = true) : a.take (k + 1) = b.take (k + 1) := by
  rw [take_snoc h1, take_snoc h2, h0, of_decide_eq_true h]
theorem rs_all {a b : List Rea} {n : Nat} (ha : a.length = n) (hb : b.length = n) (h : a.take n = b.take n) : decide (a = b) = true := by
  rw [List.take_of_length_le (by omega), List.take_of_length_le (by omega)] at h
  exact decide_eq_true h
theorem rs_len {a b : List Rea} {n m : Nat} (ha : a.length = n) (hb : b.length = m) (h : ¬ n = m) : decide (a = b) = false := decide_eq_false fun e => h (by rw [← ha, ← hb, e])
theorem af_cell {w : World} {ad : Addr} {v : Value} (h : w.cell? ad = some v) (m : Af w) : m.w.cell? ad = some v := by rw [m.below.cell (World.block_lt_of_cell? _ _ h)]; exact h
set_option maxRecDepth 100000 in
set_option maxHeartbeats 4000000 in
theorem implRe (x y : Rea) (A : Option Addr) (n c : Nat) (A' : Option Addr) (n' c' : Nat) (lo hi lo2 hi2 : Nat) (w : World) (h : Rd .u8 w lo hi A n c x.Body) (h2 : Rd .u8 w lo2 hi2 A' n' c' y.Body) :
    Calls Try.prog 88 #[rV x A n c, rV y A' n' c'] w (BPost (decide (x = y)) w) := by
  obtain ⟨v, hv⟩ : ∃ v : Bool, decide (x = y) = v := ⟨_, rfl⟩
  have HV := Lib.hid hv
  rw [hv]
  clear hv
  have PW := Lib.hid h
  have RW := Lib.hid h2
  have qa := h.hi_
  have qb := h2.hi_
  clear h h2
  go_enter Try.func88, Try.ntmps88
  go_upto_region 1 with fail
  obtain ⟨w0, hW⟩ : ∃ w0, (w.alloc (.cells #[.int .i64 x.From, .int .i64 x.Seq, .int .i64 x.Next, .slice A n c, .int .i64 x.Started] 58)).alloc (.cells #[.int .i64 y.From, .int .i64 y.Seq, .int .i64 y.Next, .slice A' n' c', .int .i64 y.Started] 58) = w0 := ⟨_, rfl⟩
  rw [hW]
  have B0 := Lib.hid (show Below w.heap.size w w0 by rw [← hW]; exact ((Below.refl _ _).alloc (by simp <;> omega) _).alloc (by simp <;> omega) _)
  have X0 := Lib.hid (show Bx 58 w0 (w.heap.size) #[.int .i64 x.From, .int .i64 x.Seq, .int .i64 x.Next, .slice A n c, .int .i64 x.Started] by
      rw [← hW]
      have hh := Bx.made 58 w #[.int .i64 x.From, .int .i64 x.Seq, .int .i64 x.Next, .slice A n c, .int .i64 x.Started]
      exact (hh.below (below_box _ _)))
  have Y0 := Lib.hid (show Bx 58 w0 (w.heap.size + 1) #[.int .i64 y.From, .int .i64 y.Seq, .int .i64 y.Next, .slice A' n' c', .int .i64 y.Started] by
      rw [← hW]
      have hh : Bx 58 ((w.alloc (.cells #[.int .i64 x.From, .int .i64 x.Seq, .int .i64 x.Next, .slice A n c, .int .i64 x.Started] 58)).alloc (.cells #[.int .i64 y.From, .int .i64 y.Seq, .int .i64 y.Next, .slice A' n' c', .int .i64 y.Started] 58)) (w.heap.size + 1) #[.int .i64 y.From, .int .i64 y.Seq, .int .i64 y.Next, .slice A' n' c', .int .i64 y.Started] := by have hh := Bx.made 58 (w.alloc (.cells #[.int .i64 x.From, .int .i64 x.Seq, .int .i64 x.Next, .slice A n c, .int .i64 x.Started] 58)) #[.int .i64 y.From, .int .i64 y.Seq, .int .i64 y.Next, .slice A' n' c', .int .i64 y.Started]; simpa using hh
      exact hh)
  have P0 := Lib.hid (show Rd .u8 w0 (lo) (hi) A n c x.Body by rw [← hW]; exact ((PW.out.below (below_box _ _)).below (below_box _ _)))
  have R0 := Lib.hid (show Rd .u8 w0 (lo2) (hi2) A' n' c' y.Body by rw [← hW]; exact ((RW.out.below (below_box _ _)).below (below_box _ _)))
  clear hW
  have LTX := Lib.hid X0.out.lt
  have LTY := Lib.hid Y0.out.lt
  by_cases h0 : x.From = y.From
  · by_cases h1 : x.Seq = y.Seq
    · by_cases h2 : x.Next = y.Next
      · by_cases h3 : x.Started = y.Started
        · have cX0 : w0.cell? ⟨w.heap.size, 0, none⟩ = some (.int .i64 x.From) := X0.out.cell 0
          have cX1 : w0.cell? ⟨w.heap.size, 1, none⟩ = some (.int .i64 x.Seq) := X0.out.cell 1
          have cX2 : w0.cell? ⟨w.heap.size, 2, none⟩ = some (.int .i64 x.Next) := X0.out.cell 2
          have cX3 : w0.cell? ⟨w.heap.size, 3, none⟩ = some (.slice A n c) := X0.out.cell 3
          have cX4 : w0.cell? ⟨w.heap.size, 4, none⟩ = some (.int .i64 x.Started) := X0.out.cell 4
          have cY0 : w0.cell? ⟨w.heap.size + 1, 0, none⟩ = some (.int .i64 y.From) := Y0.out.cell 0
          have cY1 : w0.cell? ⟨w.heap.size + 1, 1, none⟩ = some (.int .i64 y.Seq) := Y0.out.cell 1
          have cY2 : w0.cell? ⟨w.heap.size + 1, 2, none⟩ = some (.int .i64 y.Next) := Y0.out.cell 2
          have cY3 : w0.cell? ⟨w.heap.size + 1, 3, none⟩ = some (.slice A' n' c') := Y0.out.cell 3
          have cY4 : w0.cell? ⟨w.heap.size + 1, 4, none⟩ = some (.int .i64 y.Started) := Y0.out.cell 4
          go_wp2_with fail
          (with_reducible refine (eqs.implEqB x.Body y.Body _ _ _ _ A A' n c n' c' _ P0.out R0.out).mono ?_)
          rintro e w1 ⟨rfl, hb⟩
          have B1 := Lib.hid (B0.out.trans (hb.mono B0.out.size))
          clear hb
          obtain ⟨u, hu⟩ : ∃ u, decide (x.Body = y.Body) = u := ⟨_, rfl⟩
          have HE := Lib.hid (show v = u by rw [← HV.out]; exact rea_eq h0 h1 h2 h3 hu)
          rw [hu]
          clear hu
          go_wp2_with fail
          go_ret
          exact ⟨by rw [HE.out]; rfl, B1.out⟩
        · have cX0 : w0.cell? ⟨w.heap.size, 0, none⟩ = some (.int .i64 x.From) := X0.out.cell 0
          have cX1 : w0.cell? ⟨w.heap.size, 1, none⟩ = some (.int .i64 x.Seq) := X0.out.cell 1
          have cX2 : w0.cell? ⟨w.heap.size, 2, none⟩ = some (.int .i64 x.Next) := X0.out.cell 2
          have cX3 : w0.cell? ⟨w.heap.size, 3, none⟩ = some (.slice A n c) := X0.out.cell 3
          have cX4 : w0.cell? ⟨w.heap.size, 4, none⟩ = some (.int .i64 x.Started) := X0.out.cell 4
          have cY0 : w0.cell? ⟨w.heap.size + 1, 0, none⟩ = some (.int .i64 y.From) := Y0.out.cell 0
          have cY1 : w0.cell? ⟨w.heap.size + 1, 1, none⟩ = some (.int .i64 y.Seq) := Y0.out.cell 1
          have cY2 : w0.cell? ⟨w.heap.size + 1, 2, none⟩ = some (.int .i64 y.Next) := Y0.out.cell 2
          have cY3 : w0.cell? ⟨w.heap.size + 1, 3, none⟩ = some (.slice A' n' c') := Y0.out.cell 3
          have cY4 : w0.cell? ⟨w.heap.size + 1, 4, none⟩ = some (.int .i64 y.Started) := Y0.out.cell 4
          have HE := Lib.hid (show v = false by rw [← HV.out]; exact rea_ne fun e0 e1 e2 e3 _ => h3 e3)
          go_wp2_with fail
          go_ret
          exact ⟨by rw [HE.out]; rfl, B0.out⟩
      · have cX0 : w0.cell? ⟨w.heap.size, 0, none⟩ = some (.int .i64 x.From) := X0.out.cell 0
        have cX1 : w0.cell? ⟨w.heap.size, 1, none⟩ = some (.int .i64 x.Seq) := X0.out.cell 1
        have cX2 : w0.cell? ⟨w.heap.size, 2, none⟩ = some (.int .i64 x.Next) := X0.out.cell 2
        have cX3 : w0.cell? ⟨w.heap.size, 3, none⟩ = some (.slice A n c) := X0.out.cell 3
        have cX4 : w0.cell? ⟨w.heap.size, 4, none⟩ = some (.int .i64 x.Started) := X0.out.cell 4
        have cY0 : w0.cell? ⟨w.heap.size + 1, 0, none⟩ = some (.int .i64 y.From) := Y0.out.cell 0
        have cY1 : w0.cell? ⟨w.heap.size + 1, 1, none⟩ = some (.int .i64 y.Seq) := Y0.out.cell 1
        have cY2 : w0.cell? ⟨w.heap.size + 1, 2, none⟩ = some (.int .i64 y.Next) := Y0.out.cell 2
        have cY3 : w0.cell? ⟨w.heap.size + 1, 3, none⟩ = some (.slice A' n' c') := Y0.out.cell 3
        have cY4 : w0.cell? ⟨w.heap.size + 1, 4, none⟩ = some (.int .i64 y.Started) := Y0.out.cell 4
        have HE := Lib.hid (show v = false by rw [← HV.out]; exact rea_ne fun e0 e1 e2 e3 _ => h2 e2)
        go_wp2_with fail
        go_ret
        exact ⟨by rw [HE.out]; rfl, B0.out⟩
    · have cX0 : w0.cell? ⟨w.heap.size, 0, none⟩ = some (.int .i64 x.From) := X0.out.cell 0
      have cX1 : w0.cell? ⟨w.heap.size, 1, none⟩ = some (.int .i64 x.Seq) := X0.out.cell 1
      have cX2 : w0.cell? ⟨w.heap.size, 2, none⟩ = some (.int .i64 x.Next) := X0.out.cell 2
      have cX3 : w0.cell? ⟨w.heap.size, 3, none⟩ = some (.slice A n c) := X0.out.cell 3
      have cX4 : w0.cell? ⟨w.heap.size, 4, none⟩ = some (.int .i64 x.Started) := X0.out.cell 4
      have cY0 : w0.cell? ⟨w.heap.size + 1, 0, none⟩ = some (.int .i64 y.From) := Y0.out.cell 0
      have cY1 : w0.cell? ⟨w.heap.size + 1, 1, none⟩ = some (.int .i64 y.Seq) := Y0.out.cell 1
      have cY2 : w0.cell? ⟨w.heap.size + 1, 2, none⟩ = some (.int .i64 y.Next) := Y0.out.cell 2
      have cY3 : w0.cell? ⟨w.heap.size + 1, 3, none⟩ = some (.slice A' n' c') := Y0.out.cell 3
      have cY4 : w0.cell? ⟨w.heap.size + 1, 4, none⟩ = some (.int .i64 y.Started) := Y0.out.cell 4
      have HE := Lib.hid (show v = false by rw [← HV.out]; exact rea_ne fun e0 e1 e2 e3 _ => h1 e1)
      go_wp2_with fail
      go_ret
      exact ⟨by rw [HE.out]; rfl, B0.out⟩
  · have cX0 : w0.cell? ⟨w.heap.size, 0, none⟩ = some (.int .i64 x.From) := X0.out.cell 0
    have cX1 : w0.cell? ⟨w.heap.size, 1, none⟩ = some (.int .i64 x.Seq) := X0.out.cell 1
    have cX2 : w0.cell? ⟨w.heap.size, 2, none⟩ = some (.int .i64 x.Next) := X0.out.cell 2
    have cX3 : w0.cell? ⟨w.heap.size, 3, none⟩ = some (.slice A n c) := X0.out.cell 3
    have cX4 : w0.cell? ⟨w.heap.size, 4, none⟩ = some (.int .i64 x.Started) := X0.out.cell 4
    have cY0 : w0.cell? ⟨w.heap.size + 1, 0, none⟩ = some (.int .i64 y.From) := Y0.out.cell 0
    have cY1 : w0.cell? ⟨w.heap.size + 1, 1, none⟩ = some (.int .i64 y.Seq) := Y0.out.cell 1
    have cY2 : w0.cell? ⟨w.heap.size + 1, 2, none⟩ = some (.int .i64 y.Next) := Y0.out.cell 2
    have cY3 : w0.cell? ⟨w.heap.size + 1, 3, none⟩ = some (.slice A' n' c') := Y0.out.cell 3
    have cY4 : w0.cell? ⟨w.heap.size + 1, 4, none⟩ = some (.int .i64 y.Started) := Y0.out.cell 4
    have HE := Lib.hid (show v = false by rw [← HV.out]; exact rea_ne fun e0 e1 e2 e3 _ => h0 e0)
    go_wp2_with fail
    go_ret
    exact ⟨by rw [HE.out]; rfl, B0.out⟩
set_option maxRecDepth 100000 in
set_option maxHeartbeats 4000000 in
theorem reqFn (ms ms2 : List Rea) (A : Option Addr) (n cap lo hi : Nat) (A2 : Option Addr) (n2 cap2 lo2 hi2 : Nat) (w : World) (h : Rq reaS w lo hi A n cap ms) (h2 : Rq reaS w lo2 hi2 A2 n2 cap2 ms2) :
    Calls Try.prog 87 #[.slice A n cap, .slice A2 n2 cap2, .func (.func 88) #[] #[]] w (BPost (decide (ms = ms2)) w) := by
  have QW := Lib.hid h
  have RW := Lib.hid h2
  have qa := h.hi_
  have qb := h2.hi_
  have qc := h.cap_
  have qd := h2.cap_
  have HL1 := Lib.hid h.len
  have HL2 := Lib.hid h2.len
  clear h h2
  go_enter Try.func87, Try.ntmps87
  by_cases hne : n = n2
  · subst hne
    have B0 := Lib.hid (Below.refl w.heap.size w)
    have Q0 := QW
    have R0 := RW
    go_wp2_with fail
    go_loopw [17] (fun v0 wr => ∃ (k : Nat), v0 = .int .i64 ((k : Int)) ∧ (k ≤ n) ∧ (ms.take k = ms2.take k) ∧ Below w.heap.size w wr ∧ Rq reaS wr lo hi A n cap ms ∧ Rq reaS wr lo2 hi2 A2 n cap2 ms2) (fun i _ => n - (intOf i).toNat)
    case atStart => exact ⟨0, rfl, by omega, by simp, B0.out, Q0.out, R0.out⟩
    case round =>
      obtain ⟨k, rfl, ghk, ghe, gB1, gQ1, gR1⟩ := hrel
      have B1 := Lib.hid gB1
      have Q1 := Lib.hid gQ1
      have R1 := Lib.hid gR1
      have hk := Lib.hid ghk
      have he := Lib.hid ghe
      clear gB1 gQ1 gR1 ghk ghe
      have SBR1 := Lib.hid B1.out.size
      have hk := hk.out
      by_cases hlt : k < n
      · have hlt2 : (k : Int) < n := by omega
        obtain ⟨b, off, y, hA, hy, h1, h2, A', n', c', hd, ce0, ce1, ce2, ce3, ce4⟩ := at_ Q1.out hlt
        have HY := Lib.hid hy
        have D1 := Lib.hid hd
        clear hy hd
        subst hA
        go_upto_region 6 with fail
        clear ce0 ce1 ce2 ce3 ce4
        obtain ⟨bv, hbb⟩ : ∃ b, wr.heap.size = b := ⟨_, rfl⟩
        generalize hW : wr.alloc (.cells #[.int .i64 y.From, .int .i64 y.Seq, .int .i64 y.Next, .slice A' n' c', .int .i64 y.Started] 58) = w2
        have LV := Lib.hid (show w.heap.size ≤ bv ∧ hi ≤ bv ∧ hi2 ≤ bv ∧ hi ≤ bv by have h1 := B1.out.size; have h2Q := Q1.out.hi_; have h2R := R1.out.hi_; have h2D := D1.out.hi_; have h3 := hbb; omega)
        have V2 := Lib.hid (show Bx 58 w2 bv #[.int .i64 y.From, .int .i64 y.Seq, .int .i64 y.Next, .slice A' n' c', .int .i64 y.Started] by rw [← hW, ← hbb]; exact Bx.made _ _ _)
        have hb : Below wr.heap.size wr w2 := by rw [← hW]; exact below_box _ _
        (try rw [hbb])
        clear hW hbb
        have SS2 := Lib.hid hb.size
        have B2 := Lib.hid (B1.out.trans (hb.mono B1.out.size))
        have Q2 := Lib.hid (Q1.out.below hb)
        have R2 := Lib.hid (R1.out.below hb)
        have D2 := Lib.hid (D1.out.below hb)
        clear hb B1 Q1 R1 D1
        have LWV := Lib.hid V2.out.lt
        obtain ⟨bx, offx, x, hAx, hyx, h1x, h2x, Ax', nx', cx', hdx, ce0x, ce1x, ce2x, ce3x, ce4x⟩ := at_ R2.out hlt
        have HYx := Lib.hid hyx
        have E2 := Lib.hid hdx
        clear hyx hdx
        subst hAx
        go_upto_region 7 with fail
        clear ce0x ce1x ce2x ce3x ce4x
        obtain ⟨bu, hbb⟩ : ∃ b, w2.heap.size = b := ⟨_, rfl⟩
        generalize hW : w2.alloc (.cells #[.int .i64 x.From, .int .i64 x.Seq, .int .i64 x.Next, .slice Ax' nx' cx', .int .i64 x.Started] 58) = w3
        have LU := Lib.hid (show w.heap.size ≤ bu ∧ bv < bu ∧ hi ≤ bu ∧ hi2 ≤ bu ∧ hi ≤ bu ∧ hi2 ≤ bu by have h1 := B2.out.size; have h2V := V2.out.lt; have h2Q := Q2.out.hi_; have h2R := R2.out.hi_; have h2D := D2.out.hi_; have h2E := E2.out.hi_; have h3 := hbb; omega)
        have U3 := Lib.hid (show Bx 58 w3 bu #[.int .i64 x.From, .int .i64 x.Seq, .int .i64 x.Next, .slice Ax' nx' cx', .int .i64 x.Started] by rw [← hW, ← hbb]; exact Bx.made _ _ _)
        have hb : Below w2.heap.size w2 w3 := by rw [← hW]; exact below_box _ _
        (try rw [hbb])
        clear hW hbb
        have SS3 := Lib.hid hb.size
        have B3 := Lib.hid (B2.out.trans (hb.mono B2.out.size))
        have V3 := Lib.hid (V2.out.below hb)
        have Q3 := Lib.hid (Q2.out.below hb)
        have R3 := Lib.hid (R2.out.below hb)
        have D3 := Lib.hid (D2.out.below hb)
        have E3 := Lib.hid (E2.out.below hb)
        clear hb B2 V2 Q2 R2 D2 E2
        have LWU := Lib.hid U3.out.lt
        have cV0 : w3.cell? ⟨bv, 0, none⟩ = some (.int .i64 y.From) := V3.out.cell 0
        have cV1 : w3.cell? ⟨bv, 1, none⟩ = some (.int .i64 y.Seq) := V3.out.cell 1
        have cV2 : w3.cell? ⟨bv, 2, none⟩ = some (.int .i64 y.Next) := V3.out.cell 2
        have cV3 : w3.cell? ⟨bv, 3, none⟩ = some (.slice A' n' c') := V3.out.cell 3
        have cV4 : w3.cell? ⟨bv, 4, none⟩ = some (.int .i64 y.Started) := V3.out.cell 4
        have cU0 : w3.cell? ⟨bu, 0, none⟩ = some (.int .i64 x.From) := U3.out.cell 0
        have cU1 : w3.cell? ⟨bu, 1, none⟩ = some (.int .i64 x.Seq) := U3.out.cell 1
        have cU2 : w3.cell? ⟨bu, 2, none⟩ = some (.int .i64 x.Next) := U3.out.cell 2
        have cU3 : w3.cell? ⟨bu, 3, none⟩ = some (.slice Ax' nx' cx') := U3.out.cell 3
        have cU4 : w3.cell? ⟨bu, 4, none⟩ = some (.int .i64 x.Started) := U3.out.cell 4
        go_wp2_with fail
        clear cV0 cV1 cV2 cV3 cV4 cU0 cU1 cU2 cU3 cU4
        obtain ⟨v, hv⟩ : ∃ v, decide (y = x) = v := ⟨_, rfl⟩
        have HV := Lib.hid hv
        clear hv
        (with_reducible refine (implRe y x A' n' c' Ax' nx' cx' _ _ _ _ _ D3.out E3.out).mono ?_)
        rintro e w4 hp
        obtain ⟨rfl, hb⟩ := b_parts HV.out hp
        clear hp
        have SS4 := Lib.hid hb.size
        have B4 := Lib.hid (B3.out.trans (hb.mono B3.out.size))
        have V4 := Lib.hid (V3.out.below hb)
        have U4 := Lib.hid (U3.out.below hb)
        have Q4 := Lib.hid (Q3.out.below hb)
        have R4 := Lib.hid (R3.out.below hb)
        have D4 := Lib.hid (D3.out.below hb)
        have E4 := Lib.hid (E3.out.below hb)
        clear hb  B3 V3 U3 Q3 R3 D3 E3
        cases v with
        | true =>
          have HT := Lib.hid (rs_step he.out HY.out HYx.out HV.out)
          go_wp2_with fail
          go_roundw
          case rel => exact ⟨k + 1, by go_num, by omega, HT.out, B4.out, Q4.out, R4.out⟩
          case measure => simp [intOf]; omega
        | false =>
          have HE := Lib.hid (rs_ne HY.out HYx.out HV.out)
          go_wp2_with fail
          go_ret
          exact ⟨by rw [HE.out]; try rfl, B4.out⟩
      · have hlt2 : ¬ (k : Int) < n := by omega
        obtain rfl : n = k := by omega
        have HE := Lib.hid (rs_all HL1.out HL2.out he.out)
        go_wp2_with fail
        go_ret
        exact ⟨by rw [HE.out]; try rfl, B1.out⟩
  · have hn2 : ¬ (n : Int) = (n2 : Int) := by omega
    have HE := Lib.hid (rs_len HL1.out HL2.out hne)
    go_wp2_with fail
    go_ret
    exact ⟨by rw [HE.out]; try rfl, Below.refl _ _⟩
set_option maxRecDepth 100000 in
set_option maxHeartbeats 4000000 in
theorem implEr (ms ms2 : List Rea) (A : Option Addr) (n cap lo hi : Nat) (A2 : Option Addr) (n2 cap2 lo2 hi2 : Nat) (w : World) (h : Rq reaS w lo hi A n cap ms) (h2 : Rq reaS w lo2 hi2 A2 n2 cap2 ms2) :
    Calls Try.prog 33 #[.slice A n cap, .slice A2 n2 cap2] w (BPost (decide (ms = ms2)) w) := by
  obtain ⟨v, hv⟩ : ∃ v, decide (ms = ms2) = v := ⟨_, rfl⟩
  rw [hv]
  have HV := Lib.hid hv
  have HR := Lib.hid h
  have HS := Lib.hid h2
  clear h h2 hv
  go_enter Try.func33, Try.ntmps33
  go_wp2_with fail
  (with_reducible refine (reqFn ms ms2 A n cap _ _ A2 n2 cap2 _ _ _ HR.out HS.out).mono ?_)
  rintro e w1 hp
  obtain ⟨rfl, hb⟩ := b_parts HV.out hp
  have B1 := Lib.hid hb
  clear hb hp
  go_wp2_with fail
  go_ret
  exact ⟨rfl, B1.out⟩
set_option maxRecDepth 100000 in
set_option maxHeartbeats 4000000 in
theorem specEr (ms ms2 : List Rea) (A : Option Addr) (n cap lo hi : Nat) (A2 : Option Addr) (n2 cap2 lo2 hi2 : Nat) (w : World) (h : Rq reaS w lo hi A n cap ms) (h2 : Rq reaS w lo2 hi2 A2 n2 cap2 ms2) :
    Calls Try.prog 58 #[.slice A n cap, .slice A2 n2 cap2] w (BPost (decide (ms = ms2)) w) := by
  obtain ⟨r, hr⟩ : ∃ r, decide (ms = ms2) = r := ⟨_, rfl⟩
  have HR2 := Lib.hid hr
  rw [hr]
  clear hr
  have QW := Lib.hid h
  have RW := Lib.hid h2
  have qa := h.hi_
  have qb := h2.hi_
  have qc := h.cap_
  have qd := h2.cap_
  have HL1 := Lib.hid h.len
  have HL2 := Lib.hid h2.len
  clear h h2
  by_cases hne : n = n2
  · subst hne
    go_enter Try.func58, Try.ntmps58
    have B0 := Lib.hid (Below.refl w.heap.size w)
    have Q0 := QW
    have R0 := RW
    go_wp2_with fail
    go_loopw [5] (fun v0 wr => ∃ (k : Nat), v0 = .int .i64 ((k : Int)) ∧ (k ≤ n) ∧ (ms.take k = ms2.take k) ∧ Below w.heap.size w wr ∧ Rq reaS wr lo hi A n cap ms ∧ Rq reaS wr lo2 hi2 A2 n cap2 ms2) (fun i _ => n - (intOf i).toNat)
    case atStart => exact ⟨0, rfl, by omega, by simp, B0.out, Q0.out, R0.out⟩
    case round =>
      obtain ⟨k, rfl, ghk, ghe, gB1, gQ1, gR1⟩ := hrel
      have B1 := Lib.hid gB1
      have Q1 := Lib.hid gQ1
      have R1 := Lib.hid gR1
      have hk := Lib.hid ghk
      have he := Lib.hid ghe
      clear gB1 gQ1 gR1 ghk ghe
      have SBR1 := Lib.hid B1.out.size
      have hk := hk.out
      by_cases hlt : k < n
      · have hlt2 : (k : Int) < n := by omega
        obtain ⟨b, off, y, hA, hy, h1, h2, A', n', c', hd, ce0, ce1, ce2, ce3, ce4⟩ := at_ Q1.out hlt
        have HY := Lib.hid hy
        have D1 := Lib.hid hd
        clear hy hd
        subst hA
        obtain ⟨bx, offx, x, hAx, hyx, h1x, h2x, Ax', nx', cx', hdx, ce0x, ce1x, ce2x, ce3x, ce4x⟩ := at_ R1.out hlt
        have HYx := Lib.hid hyx
        have E1 := Lib.hid hdx
        clear hyx hdx
        subst hAx
        go_upto_region 6 with fail
        have mce0 := af_cell ce0
        have mce1 := af_cell ce1
        have mce2 := af_cell ce2
        have mce3 := af_cell ce3
        have mce4 := af_cell ce4
        have mce0x := af_cell ce0x
        have mce1x := af_cell ce1x
        have mce2x := af_cell ce2x
        have mce3x := af_cell ce3x
        have mce4x := af_cell ce4x
        clear ce0 ce1 ce2 ce3 ce4 ce0x ce1x ce2x ce3x ce4x
        by_cases e0 : y.From = x.From
        · by_cases e1 : y.Seq = x.Seq
          · by_cases e2 : y.Next = x.Next
            · by_cases e3 : y.Started = x.Started
              · obtain ⟨v, hv⟩ : ∃ v, decide (y.Body = x.Body) = v := ⟨_, rfl⟩
                have HV := Lib.hid (rea_eq e0 e1 e2 e3 hv)
                have HVV := Lib.hid hv
                clear hv
                have q0 := Lib.hid (fun m => (eqs.specEqB y.Body x.Body _ _ _ _ A' Ax' n' c' nx' cx' m.w (Af.rd D1.out m) (Af.rd E1.out m)).mono fun e w9 hp => by obtain ⟨h1, h2⟩ := hp; exact ⟨by rw [h1, HVV.out], h2⟩ : ∀ m : Af wr, Calls Try.prog 98 #[.slice A' n' c', .slice Ax' nx' cx'] m.w fun e w' => e = .returned (.bool v) ∧ Below m.w.heap.size m.w w')
                have g0 : decide (y.From = x.From) = true := decide_eq_true e0
                have g1 : decide (y.Seq = x.Seq) = true := decide_eq_true e1
                have g2 : decide (y.Next = x.Next) = true := decide_eq_true e2
                have g3 : decide (y.Started = x.Started) = true := decide_eq_true e3
                refine region_after (by kernel_rfl) (by kernel_rfl) ?_
                repeat (go_big_quiet_step ((go_at_call 98; with_reducible exact Af.call (q0.out _))))
                refine wpQuiet_nil ?_
                intro _ hw'
                obtain ⟨nq, hw''⟩ := hw'
                subst hw''
                clear mce0 mce1 mce2 mce3 mce4 mce0x mce1x mce2x mce3x mce4x q0
                obtain ⟨w2, hw5⟩ : ∃ w5, nq.w = w5 := ⟨_, rfl⟩
                have hb := nq.below
                rw [hw5] at hb
                (try rw [hw5])
                clear hw5
                have SS2 := Lib.hid hb.size
                have B2 := Lib.hid (B1.out.trans (hb.mono B1.out.size))
                have Q2 := Lib.hid (Q1.out.below hb)
                have R2 := Lib.hid (R1.out.below hb)
                have D2 := Lib.hid (D1.out.below hb)
                have E2 := Lib.hid (E1.out.below hb)
                clear hb nq B1 Q1 R1 D1 E1
                cases v with
                | true =>
                  have HT := Lib.hid (rs_step he.out HY.out HYx.out HV.out)
                  go_wp2_with fail
                  go_roundw
                  case rel => exact ⟨k + 1, by go_num, by omega, HT.out, B2.out, Q2.out, R2.out⟩
                  case measure => simp [intOf]; omega
                | false =>
                  have HE := Lib.hid (show r = false by rw [← HR2.out]; exact rs_ne HY.out HYx.out HV.out)
                  go_wp2_with fail
                  go_ret
                  exact ⟨by rw [HE.out]; try rfl, B2.out⟩
              · have g0 : decide (y.From = x.From) = true := decide_eq_true e0
                have g1 : decide (y.Seq = x.Seq) = true := decide_eq_true e1
                have g2 : decide (y.Next = x.Next) = true := decide_eq_true e2
                have g3 : (y.Started != x.Started) = true := by simp [e3]
                refine region_after (by kernel_rfl) (by kernel_rfl) ?_
                repeat (go_big_quiet_step (fail))
                refine wpQuiet_nil ?_
                intro _ hw'
                obtain ⟨nq, hw''⟩ := hw'
                subst hw''
                clear mce0 mce1 mce2 mce3 mce4 mce0x mce1x mce2x mce3x mce4x
                obtain ⟨w2, hw5⟩ : ∃ w5, nq.w = w5 := ⟨_, rfl⟩
                have hb := nq.below
                rw [hw5] at hb
                (try rw [hw5])
                clear hw5
                have SS2 := Lib.hid hb.size
                have B2 := Lib.hid (B1.out.trans (hb.mono B1.out.size))
                have Q2 := Lib.hid (Q1.out.below hb)
                have R2 := Lib.hid (R1.out.below hb)
                have D2 := Lib.hid (D1.out.below hb)
                have E2 := Lib.hid (E1.out.below hb)
                clear hb nq B1 Q1 R1 D1 E1
                have HE := Lib.hid (show r = false by rw [← HR2.out]; exact rs_ne HY.out HYx.out (rea_ne fun d0 d1 d2 d3 _ => e3 d3))
                go_wp2_with fail
                go_ret
                exact ⟨by rw [HE.out]; try rfl, B2.out⟩
            · have g0 : decide (y.From = x.From) = true := decide_eq_true e0
              have g1 : decide (y.Seq = x.Seq) = true := decide_eq_true e1
              have g2 : (y.Next != x.Next) = true := by simp [e2]
              refine region_after (by kernel_rfl) (by kernel_rfl) ?_
              repeat (go_big_quiet_step (fail))
              refine wpQuiet_nil ?_
              intro _ hw'
              obtain ⟨nq, hw''⟩ := hw'
              subst hw''
              clear mce0 mce1 mce2 mce3 mce4 mce0x mce1x mce2x mce3x mce4x
              obtain ⟨w2, hw5⟩ : ∃ w5, nq.w = w5 := ⟨_, rfl⟩
              have hb := nq.below
              rw [hw5] at hb
              (try rw [hw5])
              clear hw5
              have SS2 := Lib.hid hb.size
              have B2 := Lib.hid (B1.out.trans (hb.mono B1.out.size))
              have Q2 := Lib.hid (Q1.out.below hb)
              have R2 := Lib.hid (R1.out.below hb)
              have D2 := Lib.hid (D1.out.below hb)
              have E2 := Lib.hid (E1.out.below hb)
              clear hb nq B1 Q1 R1 D1 E1
              have HE := Lib.hid (show r = false by rw [← HR2.out]; exact rs_ne HY.out HYx.out (rea_ne fun d0 d1 d2 d3 _ => e2 d2))
              go_wp2_with fail
              go_ret
              exact ⟨by rw [HE.out]; try rfl, B2.out⟩
          · have g0 : decide (y.From = x.From) = true := decide_eq_true e0
            have g1 : (y.Seq != x.Seq) = true := by simp [e1]
            refine region_after (by kernel_rfl) (by kernel_rfl) ?_
            repeat (go_big_quiet_step (fail))
            refine wpQuiet_nil ?_
            intro _ hw'
            obtain ⟨nq, hw''⟩ := hw'
            subst hw''
            clear mce0 mce1 mce2 mce3 mce4 mce0x mce1x mce2x mce3x mce4x
            obtain ⟨w2, hw5⟩ : ∃ w5, nq.w = w5 := ⟨_, rfl⟩
            have hb := nq.below
            rw [hw5] at hb
            (try rw [hw5])
            clear hw5
            have SS2 := Lib.hid hb.size
            have B2 := Lib.hid (B1.out.trans (hb.mono B1.out.size))
            have Q2 := Lib.hid (Q1.out.below hb)
            have R2 := Lib.hid (R1.out.below hb)
            have D2 := Lib.hid (D1.out.below hb)
            have E2 := Lib.hid (E1.out.below hb)
            clear hb nq B1 Q1 R1 D1 E1
            have HE := Lib.hid (show r = false by rw [← HR2.out]; exact rs_ne HY.out HYx.out (rea_ne fun d0 d1 d2 d3 _ => e1 d1))
            go_wp2_with fail
            go_ret
            exact ⟨by rw [HE.out]; try rfl, B2.out⟩
        · have g0 : (y.From != x.From) = true := by simp [e0]
          refine region_after (by kernel_rfl) (by kernel_rfl) ?_
          repeat (go_big_quiet_step (fail))
          refine wpQuiet_nil ?_
          intro _ hw'
          obtain ⟨nq, hw''⟩ := hw'
          subst hw''
          clear mce0 mce1 mce2 mce3 mce4 mce0x mce1x mce2x mce3x mce4x
          obtain ⟨w2, hw5⟩ : ∃ w5, nq.w = w5 := ⟨_, rfl⟩
          have hb := nq.below
          rw [hw5] at hb
          (try rw [hw5])
          clear hw5
          have SS2 := Lib.hid hb.size
          have B2 := Lib.hid (B1.out.trans (hb.mono B1.out.size))
          have Q2 := Lib.hid (Q1.out.below hb)
          have R2 := Lib.hid (R1.out.below hb)
          have D2 := Lib.hid (D1.out.below hb)
          have E2 := Lib.hid (E1.out.below hb)
          clear hb nq B1 Q1 R1 D1 E1
          have HE := Lib.hid (show r = false by rw [← HR2.out]; exact rs_ne HY.out HYx.out (rea_ne fun d0 d1 d2 d3 _ => e0 d0))
          go_wp2_with fail
          go_ret
          exact ⟨by rw [HE.out]; try rfl, B2.out⟩
      · have hlt2 : ¬ (k : Int) < n := by omega
        obtain rfl : n = k := by omega
        have HE := Lib.hid (show r = true by rw [← HR2.out]; exact rs_all HL1.out HL2.out he.out)
        go_wp2_with fail
        go_ret
        exact ⟨by rw [HE.out]; try rfl, B1.out⟩
  · have hn2 : ¬ (n : Int) = (n2 : Int) := by omega
    have HE := Lib.hid (show r = false by rw [← HR2.out]; exact rs_len HL1.out HL2.out hne)
    go_enter Try.func58, Try.ntmps58
    go_wp2_with fail
    go_ret
    exact ⟨by rw [HE.out]; try rfl, Below.refl _ _⟩
end Go.Proofs.Ytjmenbpalihnnaa.fr
