/- EqualReorderBuffers of both sides. Condition: none. -/
import Derived.Test.YtmmhleobgpgliaaRo1
import Derived.Test.YtmmhleobgpgliaaEq
namespace Go.Proofs.Ytmmhleobgpgliaa.ro
open Go.RowKit sl harn bx stw
set_option linter.unusedVariables false
open ux (Nf Rob RR OO row rowB rowNf nf rob)
open mrw (blkOf)
open bs (nsq sqd)
set_option linter.unusedSimpArgs false
open bx

instance : DecidableEq Nf := fun x y => decidable_of_iff (x.Seq = y.Seq ∧ x.Body = y.Body) ⟨fun h => by obtain ⟨a, b⟩ := x; obtain ⟨a2, b2⟩ := y; simp only at h; obtain ⟨rfl, rfl⟩ := h; rfl, fun h => by subst h; exact ⟨rfl, rfl⟩⟩
instance : DecidableEq Rob := fun x y => decidable_of_iff (x.Start = y.Start ∧ x.Pending = y.Pending) ⟨fun h => by obtain ⟨a, b⟩ := x; obtain ⟨a2, b2⟩ := y; simp only at h; obtain ⟨rfl, rfl⟩ := h; rfl, fun h => by subst h; exact ⟨rfl, rfl⟩⟩
theorem nf_ne {x y : Nf} (h : x.Seq = y.Seq → x.Body ≠ y.Body) : decide (x = y) = false := decide_eq_false fun e => by subst e; exact h rfl rfl
theorem nf_eq {x y : Nf} {v : Bool} (h1 : x.Seq = y.Seq) (hv : decide (x.Body = y.Body) = v) : decide (x = y) = v := by
  obtain ⟨a, b⟩ := x
  obtain ⟨a2, b2⟩ := y
  simp only at h1
  subst h1
  rw [← hv]; simp
theorem ns_ne {a b : List Nf} {k : Nat} {x y : Nf} (h1 : a[k]? = some x) (h2 : b[k]? = some y) (h : decide (x = y) = false) : decide (a = b) = false := decide_eq_false fun e => (of_decide_eq_false h) (by rw [e] at h1; exact Option.some.inj (h1.symm.trans h2))
theorem ns_step {a b : List Nf} {k : Nat} {x y : Nf} (h0 : a.take k = b.take k) (h1 : a[k]? = some x) (h2 : b[k]? = some y) (h : decide (x = y) = true) : a.take (k + 1) = b.take (k + 1) := by
  rw [ux.take_snoc h1, ux.take_snoc h2, h0, of_decide_eq_true h]
theorem ns_all {a b : List Nf} {n : Nat} (ha : a.length = n) (hb : b.length = n) (h : a.take n = b.take n) : decide (a = b) = true := by
  rw [List.take_of_length_le (by omega), List.take_of_length_le (by omega)] at h
  exact decide_eq_true h
theorem ns_len {a b : List Nf} {n m : Nat} (ha : a.length = n) (hb : b.length = m) (h : ¬ n = m) : decide (a = b) = false := decide_eq_false fun e => h (by rw [← ha, ← hb, e])
theorem ro_eq {s t : Int} {xs ys : List Nf} {v : Bool} (h : s = t) (hv : decide (xs = ys) = v) : decide ((⟨s, xs⟩ : Rob) = ⟨t, ys⟩) = v := by subst h; rw [← hv]; simp
theorem ro_ne {s t : Int} {xs ys : List Nf} (h : ¬ s = t) : decide ((⟨s, xs⟩ : Rob) = ⟨t, ys⟩) = false := decide_eq_false fun e => h (by injection e)
theorem af_cell {w : World} {ad : Addr} {v : Value} (h : w.cell? ad = some v) (m : bx.Af w) : m.w.cell? ad = some v := by rw [m.below.cell (World.block_lt_of_cell? _ _ h)]; exact h
set_option maxRecDepth 100000 in
set_option maxHeartbeats 4000000 in
theorem implNe (x y : Nf) (A : Option Addr) (n c : Nat) (A' : Option Addr) (n' c' : Nat) (lo hi lo2 hi2 : Nat) (w : World) (h : RR ux.bytes w lo hi (.slice A n c) x.Body) (h2 : RR ux.bytes w lo2 hi2 (.slice A' n' c') y.Body) :
    Calls Try.prog 76 #[.agg #[.int .i64 x.Seq, .slice A n c], .agg #[.int .i64 y.Seq, .slice A' n' c']] w (BPost (decide (x = y)) w) := by
  obtain ⟨v, hv⟩ : ∃ v : Bool, decide (x = y) = v := ⟨_, rfl⟩
  have HV := Lib.hid hv
  rw [hv]
  clear hv
  have PW := Lib.hid h
  have RW := Lib.hid h2
  have LHP := Lib.hid h.hi_
  have LHR := Lib.hid h2.hi_
  clear h h2
  go_enter Try.func76, Try.ntmps76
  go_upto_region 1 with fail
  obtain ⟨w0, hW⟩ : ∃ w0, (w.alloc (.cells #[.int .i64 x.Seq, .slice A n c] 85)).alloc (.cells #[.int .i64 y.Seq, .slice A' n' c'] 85) = w0 := ⟨_, rfl⟩
  rw [hW]
  have B0 := Lib.hid (show Below w.heap.size w w0 by rw [← hW]; exact ((Below.refl _ _).alloc (by simp <;> omega) _).alloc (by simp <;> omega) _)
  have X0 := Lib.hid (show Bx 85 w0 (w.heap.size) #[.int .i64 x.Seq, .slice A n c] by
      rw [← hW]
      have hh := Bx.made 85 w #[.int .i64 x.Seq, .slice A n c]
      exact (hh.below (below_box _ _)))
  have Y0 := Lib.hid (show Bx 85 w0 (w.heap.size + 1) #[.int .i64 y.Seq, .slice A' n' c'] by
      rw [← hW]
      have hh : Bx 85 ((w.alloc (.cells #[.int .i64 x.Seq, .slice A n c] 85)).alloc (.cells #[.int .i64 y.Seq, .slice A' n' c'] 85)) (w.heap.size + 1) #[.int .i64 y.Seq, .slice A' n' c'] := by have hh := Bx.made 85 (w.alloc (.cells #[.int .i64 x.Seq, .slice A n c] 85)) #[.int .i64 y.Seq, .slice A' n' c']; simpa using hh
      exact hh)
  have P0 := Lib.hid (show RR ux.bytes w0 lo hi (.slice A n c) x.Body by rw [← hW]; exact ((PW.out.below (below_box _ _)).below (below_box _ _)))
  have R0 := Lib.hid (show RR ux.bytes w0 lo2 hi2 (.slice A' n' c') y.Body by rw [← hW]; exact ((RW.out.below (below_box _ _)).below (below_box _ _)))
  clear hW
  have LTX := Lib.hid X0.out.lt
  have LTY := Lib.hid Y0.out.lt
  by_cases h0 : x.Seq = y.Seq
  · have cX0 : w0.cell? ⟨w.heap.size, 0, none⟩ = some (.int .i64 x.Seq) := X0.out.cell 0
    have cX1 : w0.cell? ⟨w.heap.size, 1, none⟩ = some (.slice A n c) := X0.out.cell 1
    have cY0 : w0.cell? ⟨w.heap.size + 1, 0, none⟩ = some (.int .i64 y.Seq) := Y0.out.cell 0
    have cY1 : w0.cell? ⟨w.heap.size + 1, 1, none⟩ = some (.slice A' n' c') := Y0.out.cell 1
    go_wp2_with fail
    (with_reducible refine (eqs.implEqB x.Body y.Body _ _ _ _ A A' n c n' c' _ (ux.rd_of P0.out) (ux.rd_of R0.out)).mono ?_)
    rintro e w1 ⟨rfl, hb⟩
    have B1 := Lib.hid (B0.out.trans (hb.mono B0.out.size))
    clear hb
    obtain ⟨u, hu⟩ : ∃ u, decide (x.Body = y.Body) = u := ⟨_, rfl⟩
    have HE := Lib.hid (show v = u by rw [← HV.out]; exact nf_eq h0 hu)
    rw [hu]
    clear hu
    go_wp2_with fail
    go_ret
    exact ⟨by rw [HE.out]; rfl, B1.out⟩
  · have cX0 : w0.cell? ⟨w.heap.size, 0, none⟩ = some (.int .i64 x.Seq) := X0.out.cell 0
    have cX1 : w0.cell? ⟨w.heap.size, 1, none⟩ = some (.slice A n c) := X0.out.cell 1
    have cY0 : w0.cell? ⟨w.heap.size + 1, 0, none⟩ = some (.int .i64 y.Seq) := Y0.out.cell 0
    have cY1 : w0.cell? ⟨w.heap.size + 1, 1, none⟩ = some (.slice A' n' c') := Y0.out.cell 1
    have HE := Lib.hid (show v = false by rw [← HV.out]; exact nf_ne fun e0 _ => h0 e0)
    go_wp2_with fail
    go_ret
    exact ⟨by rw [HE.out]; rfl, B0.out⟩
set_option maxRecDepth 100000 in
set_option maxHeartbeats 4000000 in
theorem eqFn (ms ms2 : List Nf) (A : Option Addr) (n cap lo hi : Nat) (A2 : Option Addr) (n2 cap2 lo2 hi2 : Nat) (w : World) (h : RR rowNf w lo hi (.slice A n cap) ms) (h2 : RR rowNf w lo2 hi2 (.slice A2 n2 cap2) ms2) :
    Calls Try.prog 75 #[.slice A n cap, .slice A2 n2 cap2, .func (.func 76) #[] #[]] w (BPost (decide (ms = ms2)) w) := by
  have QW := Lib.hid h
  have RW := Lib.hid h2
  have LHQ := Lib.hid h.hi_
  have LHR := Lib.hid h2.hi_
  obtain ⟨hl1, hnc1, hcm1⟩ := nf_len h
  obtain ⟨hl2, hnc2, hcm2⟩ := nf_len h2
  have HL1 := Lib.hid hl1
  have HL2 := Lib.hid hl2
  clear h h2 hl1 hl2
  go_enter Try.func75, Try.ntmps75
  by_cases hne : n = n2
  · subst hne
    have B0 := Lib.hid (Below.refl w.heap.size w)
    have Q0 := QW
    have R0 := RW
    go_wp2_with fail
    go_loopw [17] (fun v0 wr => ∃ (k : Nat), v0 = .int .i64 ((k : Int)) ∧ (k ≤ n) ∧ (ms.take k = ms2.take k) ∧ Below w.heap.size w wr ∧ RR rowNf wr lo hi (.slice A n cap) ms ∧ RR rowNf wr lo2 hi2 (.slice A2 n cap2) ms2) (fun i _ => n - (intOf i).toNat)
    case atStart => exact ⟨0, rfl, by omega, by simp, B0.out, Q0.out, R0.out⟩
    case round =>
      obtain ⟨k, rfl, ghk, ghe, gB1, gQ1, gR1⟩ := hrel
      have B1 := Lib.hid gB1
      have Q1 := Lib.hid gQ1
      have R1 := Lib.hid gR1
      have hk := Lib.hid ghk
      have he := Lib.hid ghe
      clear gB1 gQ1 gR1 ghk ghe
      have SBR1 := Lib.hid B1.out.size
      have hk := hk.out
      by_cases hlt : k < n
      · have hlt2 : (k : Int) < n := by omega
        obtain ⟨g, off, x, u, hA, hy, hg1, hg2, hru, hxu⟩ := ux.row_at (Q1.out : RR (row 85 nf) _ _ _ _ _) hlt
        obtain ⟨A0, n0, c0_, rfl, hb0⟩ := ux.nf_r hxu
        subst hA
        have k0 : wr.cell? ⟨g, off + k * 2, none⟩ = some (.int .i64 x.Seq) := hru 0 _ rfl
        have k1 : wr.cell? ⟨g, off + k * 2 + 1, none⟩ = some (.slice A0 n0 c0_) := hru 1 _ rfl
        have HY := Lib.hid hy
        have HN0 := Lib.hid (ux.rd_of hb0).len
        have hn0 := (ux.rd_of hb0).cap_
        have F1 := Lib.hid hb0
        clear hy hru hxu hb0 hg1 hg2
        obtain ⟨b2, hbb⟩ : ∃ b, wr.heap.size = b := ⟨_, rfl⟩
        go_upto_region 6 with fail
        generalize hW : wr.alloc (.cells #[.int .i64 x.Seq, .slice A0 n0 c0_] 85) = w2
        have LV := Lib.hid (show w.heap.size ≤ b2 ∧ hi ≤ b2 ∧ hi2 ≤ b2 ∧ hi ≤ b2 by have h1 := B1.out.size; have h2Q := Q1.out.hi_; have h2R := R1.out.hi_; have h2F := F1.out.hi_; have h3 := hbb; omega)
        have V2 := Lib.hid (show Bx 85 w2 b2 #[.int .i64 x.Seq, .slice A0 n0 c0_] by rw [← hW, ← hbb]; exact Bx.made _ _ _)
        have hb : Below wr.heap.size wr w2 := by rw [← hW]; exact below_box _ _
        (try rw [hbb])
        clear hW hbb
        have SS2 := Lib.hid hb.size
        have B2 := Lib.hid (B1.out.trans (hb.mono B1.out.size))
        have Q2 := Lib.hid (Q1.out.below hb)
        have R2 := Lib.hid (R1.out.below hb)
        have F2 := Lib.hid (F1.out.below hb)
        clear hb B1 Q1 R1 F1
        have LWV := Lib.hid V2.out.lt
        clear k0 k1
        have hlty := hlt
        obtain ⟨gy, offy, y, uy, hAy, hyy, hg1y, hg2y, hruy, hxuy⟩ := ux.row_at (R2.out : RR (row 85 nf) _ _ _ _ _) hlty
        obtain ⟨A0y, n0y, c0y_, rfl, hb0y⟩ := ux.nf_r hxuy
        subst hAy
        have k0y : w2.cell? ⟨gy, offy + k * 2, none⟩ = some (.int .i64 y.Seq) := hruy 0 _ rfl
        have k1y : w2.cell? ⟨gy, offy + k * 2 + 1, none⟩ = some (.slice A0y n0y c0y_) := hruy 1 _ rfl
        have HYy := Lib.hid hyy
        have HN0y := Lib.hid (ux.rd_of hb0y).len
        have hn0y := (ux.rd_of hb0y).cap_
        have Fy2 := Lib.hid hb0y
        clear hyy hruy hxuy hb0y hg1y hg2y
        obtain ⟨b3, hbb⟩ : ∃ b, w2.heap.size = b := ⟨_, rfl⟩
        go_upto_region 7 with fail
        generalize hW : w2.alloc (.cells #[.int .i64 y.Seq, .slice A0y n0y c0y_] 85) = w3
        have LU := Lib.hid (show w.heap.size ≤ b3 ∧ b2 < b3 ∧ hi ≤ b3 ∧ hi2 ≤ b3 ∧ hi ≤ b3 ∧ hi2 ≤ b3 by have h1 := B2.out.size; have h2V := V2.out.lt; have h2Q := Q2.out.hi_; have h2R := R2.out.hi_; have h2F := F2.out.hi_; have h2Fy := Fy2.out.hi_; have h3 := hbb; omega)
        have U3 := Lib.hid (show Bx 85 w3 b3 #[.int .i64 y.Seq, .slice A0y n0y c0y_] by rw [← hW, ← hbb]; exact Bx.made _ _ _)
        have hb : Below w2.heap.size w2 w3 := by rw [← hW]; exact below_box _ _
        (try rw [hbb])
        clear hW hbb
        have SS3 := Lib.hid hb.size
        have B3 := Lib.hid (B2.out.trans (hb.mono B2.out.size))
        have V3 := Lib.hid (V2.out.below hb)
        have Q3 := Lib.hid (Q2.out.below hb)
        have R3 := Lib.hid (R2.out.below hb)
        have F3 := Lib.hid (F2.out.below hb)
        have Fy3 := Lib.hid (Fy2.out.below hb)
        clear hb B2 V2 Q2 R2 F2 Fy2
        have LWU := Lib.hid U3.out.lt
        clear k0y k1y
        have cV0 : w3.cell? ⟨b2, 0, none⟩ = some (.int .i64 x.Seq) := V3.out.cell 0
        have cV1 : w3.cell? ⟨b2, 1, none⟩ = some (.slice A0 n0 c0_) := V3.out.cell 1
        have cU0 : w3.cell? ⟨b3, 0, none⟩ = some (.int .i64 y.Seq) := U3.out.cell 0
        have cU1 : w3.cell? ⟨b3, 1, none⟩ = some (.slice A0y n0y c0y_) := U3.out.cell 1
        go_wp2_with fail
        clear cV0 cV1 cU0 cU1
        obtain ⟨v, hv⟩ : ∃ v, decide (x = y) = v := ⟨_, rfl⟩
        have HV := Lib.hid hv
        clear hv
        (with_reducible refine (implNe x y A0 n0 c0_ A0y n0y c0y_ _ _ _ _ _ F3.out Fy3.out).mono ?_)
        rintro e w4 hp
        obtain ⟨rfl, hb⟩ := b_parts HV.out hp
        clear hp
        have SS4 := Lib.hid hb.size
        have B4 := Lib.hid (B3.out.trans (hb.mono B3.out.size))
        have V4 := Lib.hid (V3.out.below hb)
        have U4 := Lib.hid (U3.out.below hb)
        have Q4 := Lib.hid (Q3.out.below hb)
        have R4 := Lib.hid (R3.out.below hb)
        have F4 := Lib.hid (F3.out.below hb)
        have Fy4 := Lib.hid (Fy3.out.below hb)
        clear hb  B3 V3 U3 Q3 R3 F3 Fy3
        cases v with
        | true =>
          have HT := Lib.hid (ns_step he.out HY.out HYy.out HV.out)
          go_wp2_with fail
          go_roundw
          case rel => exact ⟨k + 1, by go_num, by omega, HT.out, B4.out, Q4.out, R4.out⟩
          case measure => simp [intOf]; omega
        | false =>
          have HE := Lib.hid (ns_ne HY.out HYy.out HV.out)
          go_wp2_with fail
          go_ret
          exact ⟨by rw [HE.out]; try rfl, B4.out⟩
      · have hlt2 : ¬ (k : Int) < n := by omega
        obtain rfl : n = k := by omega
        have HE := Lib.hid (ns_all HL1.out HL2.out he.out)
        go_wp2_with fail
        go_ret
        exact ⟨by rw [HE.out]; try rfl, B1.out⟩
  · have hn2 : ¬ (n : Int) = (n2 : Int) := by omega
    have HE := Lib.hid (ns_len HL1.out HL2.out hne)
    go_wp2_with fail
    go_ret
    exact ⟨by rw [HE.out]; try rfl, Below.refl _ _⟩
set_option maxRecDepth 100000 in
set_option maxHeartbeats 4000000 in
theorem implEq (s t : Int) (ms ms2 : List Nf) (A : Option Addr) (n cap lo hi : Nat) (A2 : Option Addr) (n2 cap2 lo2 hi2 : Nat) (w : World) (h : RR rowNf w lo hi (.slice A n cap) ms) (h2 : RR rowNf w lo2 hi2 (.slice A2 n2 cap2) ms2) :
    Calls Try.prog 27 #[.agg #[.int .i64 s, .slice A n cap], .agg #[.int .i64 t, .slice A2 n2 cap2]] w (BPost (decide ((⟨s, ms⟩ : Rob) = ⟨t, ms2⟩)) w) := by
  obtain ⟨v, hv⟩ : ∃ v : Bool, decide ((⟨s, ms⟩ : Rob) = ⟨t, ms2⟩) = v := ⟨_, rfl⟩
  have HV := Lib.hid hv
  rw [hv]
  clear hv
  have QW := Lib.hid h
  have RW := Lib.hid h2
  have LHQ := Lib.hid h.hi_
  have LHR := Lib.hid h2.hi_
  obtain ⟨hl1, hnc1, hcm1⟩ := nf_len h
  obtain ⟨hl2, hnc2, hcm2⟩ := nf_len h2
  have HL1 := Lib.hid hl1
  have HL2 := Lib.hid hl2
  clear h h2 hl1 hl2
  go_enter Try.func27, Try.ntmps27
  go_upto_region 1 with fail
  obtain ⟨w0, hW⟩ : ∃ w0, (w.alloc (.cells #[.int .i64 s, .slice A n cap] 31)).alloc (.cells #[.int .i64 t, .slice A2 n2 cap2] 31) = w0 := ⟨_, rfl⟩
  rw [hW]
  have B0 := Lib.hid (show Below w.heap.size w w0 by rw [← hW]; exact ((Below.refl _ _).alloc (by simp <;> omega) _).alloc (by simp <;> omega) _)
  have X0 := Lib.hid (show Bx 31 w0 (w.heap.size) #[.int .i64 s, .slice A n cap] by
      rw [← hW]
      have hh := Bx.made 31 w #[.int .i64 s, .slice A n cap]
      exact (hh.below (below_box _ _)))
  have Y0 := Lib.hid (show Bx 31 w0 (w.heap.size + 1) #[.int .i64 t, .slice A2 n2 cap2] by
      rw [← hW]
      have hh : Bx 31 ((w.alloc (.cells #[.int .i64 s, .slice A n cap] 31)).alloc (.cells #[.int .i64 t, .slice A2 n2 cap2] 31)) (w.heap.size + 1) #[.int .i64 t, .slice A2 n2 cap2] := by have hh := Bx.made 31 (w.alloc (.cells #[.int .i64 s, .slice A n cap] 31)) #[.int .i64 t, .slice A2 n2 cap2]; simpa using hh
      exact hh)
  have Q0 := Lib.hid (show RR rowNf w0 lo hi (.slice A n cap) ms by rw [← hW]; exact ((QW.out.below (below_box _ _)).below (below_box _ _)))
  have R0 := Lib.hid (show RR rowNf w0 lo2 hi2 (.slice A2 n2 cap2) ms2 by rw [← hW]; exact ((RW.out.below (below_box _ _)).below (below_box _ _)))
  clear hW
  have LTX := Lib.hid X0.out.lt
  have LTY := Lib.hid Y0.out.lt
  by_cases h0 : s = t
  · have cX0 : w0.cell? ⟨w.heap.size, 0, none⟩ = some (.int .i64 s) := X0.out.cell 0
    have cX1 : w0.cell? ⟨w.heap.size, 1, none⟩ = some (.slice A n cap) := X0.out.cell 1
    have cY0 : w0.cell? ⟨w.heap.size + 1, 0, none⟩ = some (.int .i64 t) := Y0.out.cell 0
    have cY1 : w0.cell? ⟨w.heap.size + 1, 1, none⟩ = some (.slice A2 n2 cap2) := Y0.out.cell 1
    go_wp2_with fail
    obtain ⟨v2, hv2⟩ : ∃ v, decide (ms = ms2) = v := ⟨_, rfl⟩
    have HV2 := Lib.hid hv2
    clear hv2
    have HE := Lib.hid (show v = v2 by rw [← HV.out]; exact ro_eq h0 HV2.out)
    clear cX0 cX1 cY0 cY1
    (with_reducible refine (eqFn ms ms2 A n cap lo hi A2 n2 cap2 lo2 hi2 _ Q0.out R0.out).mono ?_)
    rintro e w1 hp
    obtain ⟨rfl, hb⟩ := b_parts HV2.out hp
    clear hp
    have SS1 := Lib.hid hb.size
    have B1 := Lib.hid (B0.out.trans (hb.mono B0.out.size))
    have X1 := Lib.hid (X0.out.below hb)
    have Y1 := Lib.hid (Y0.out.below hb)
    have Q1 := Lib.hid (Q0.out.below hb)
    have R1 := Lib.hid (R0.out.below hb)
    clear hb  B0 X0 Y0 Q0 R0
    go_wp2_with fail
    go_ret
    exact ⟨by rw [HE.out]; rfl, B1.out⟩
  · have cX0 : w0.cell? ⟨w.heap.size, 0, none⟩ = some (.int .i64 s) := X0.out.cell 0
    have cX1 : w0.cell? ⟨w.heap.size, 1, none⟩ = some (.slice A n cap) := X0.out.cell 1
    have cY0 : w0.cell? ⟨w.heap.size + 1, 0, none⟩ = some (.int .i64 t) := Y0.out.cell 0
    have cY1 : w0.cell? ⟨w.heap.size + 1, 1, none⟩ = some (.slice A2 n2 cap2) := Y0.out.cell 1
    have HE := Lib.hid (show v = false by rw [← HV.out]; exact ro_ne h0)
    go_wp2_with fail
    go_ret
    exact ⟨by rw [HE.out]; rfl, B0.out⟩
set_option maxRecDepth 100000 in
set_option maxHeartbeats 4000000 in
theorem specEq (s t : Int) (ms ms2 : List Nf) (A : Option Addr) (n cap lo hi : Nat) (A2 : Option Addr) (n2 cap2 lo2 hi2 : Nat) (w : World) (h : RR rowNf w lo hi (.slice A n cap) ms) (h2 : RR rowNf w lo2 hi2 (.slice A2 n2 cap2) ms2) :
    Calls Try.prog 51 #[.agg #[.int .i64 s, .slice A n cap], .agg #[.int .i64 t, .slice A2 n2 cap2]] w (BPost (decide ((⟨s, ms⟩ : Rob) = ⟨t, ms2⟩)) w) := by
  obtain ⟨r, hr⟩ : ∃ v : Bool, decide ((⟨s, ms⟩ : Rob) = ⟨t, ms2⟩) = v := ⟨_, rfl⟩
  have HR2 := Lib.hid hr
  rw [hr]
  clear hr
  have QW := Lib.hid h
  have RW := Lib.hid h2
  have LHQ := Lib.hid h.hi_
  have LHR := Lib.hid h2.hi_
  obtain ⟨hl1, hnc1, hcm1⟩ := nf_len h
  obtain ⟨hl2, hnc2, hcm2⟩ := nf_len h2
  have HL1 := Lib.hid hl1
  have HL2 := Lib.hid hl2
  clear h h2 hl1 hl2
  go_enter Try.func51, Try.ntmps51
  go_upto_region 1 with fail
  obtain ⟨w0, hW⟩ : ∃ w0, (w.alloc (.cells #[.int .i64 s, .slice A n cap] 31)).alloc (.cells #[.int .i64 t, .slice A2 n2 cap2] 31) = w0 := ⟨_, rfl⟩
  rw [hW]
  have B0 := Lib.hid (show Below w.heap.size w w0 by rw [← hW]; exact ((Below.refl _ _).alloc (by simp <;> omega) _).alloc (by simp <;> omega) _)
  have X0 := Lib.hid (show Bx 31 w0 (w.heap.size) #[.int .i64 s, .slice A n cap] by
      rw [← hW]
      have hh := Bx.made 31 w #[.int .i64 s, .slice A n cap]
      exact (hh.below (below_box _ _)))
  have Y0 := Lib.hid (show Bx 31 w0 (w.heap.size + 1) #[.int .i64 t, .slice A2 n2 cap2] by
      rw [← hW]
      have hh : Bx 31 ((w.alloc (.cells #[.int .i64 s, .slice A n cap] 31)).alloc (.cells #[.int .i64 t, .slice A2 n2 cap2] 31)) (w.heap.size + 1) #[.int .i64 t, .slice A2 n2 cap2] := by have hh := Bx.made 31 (w.alloc (.cells #[.int .i64 s, .slice A n cap] 31)) #[.int .i64 t, .slice A2 n2 cap2]; simpa using hh
      exact hh)
  have Q0 := Lib.hid (show RR rowNf w0 lo hi (.slice A n cap) ms by rw [← hW]; exact ((QW.out.below (below_box _ _)).below (below_box _ _)))
  have R0 := Lib.hid (show RR rowNf w0 lo2 hi2 (.slice A2 n2 cap2) ms2 by rw [← hW]; exact ((RW.out.below (below_box _ _)).below (below_box _ _)))
  clear hW
  have LTX := Lib.hid X0.out.lt
  have LTY := Lib.hid Y0.out.lt
  by_cases h0 : s = t
  · by_cases hne : n = n2
    · subst hne
      have cX0 : w0.cell? ⟨w.heap.size, 0, none⟩ = some (.int .i64 s) := X0.out.cell 0
      have cX1 : w0.cell? ⟨w.heap.size, 1, none⟩ = some (.slice A n cap) := X0.out.cell 1
      have cY0 : w0.cell? ⟨w.heap.size + 1, 0, none⟩ = some (.int .i64 t) := Y0.out.cell 0
      have cY1 : w0.cell? ⟨w.heap.size + 1, 1, none⟩ = some (.slice A2 n cap2) := Y0.out.cell 1
      go_wp2_with fail
      clear cX0 cX1 cY0 cY1
      go_loopw [5] (fun v0 wr => ∃ (k : Nat), v0 = .int .i64 ((k : Int)) ∧ (k ≤ n) ∧ (ms.take k = ms2.take k) ∧ Below w.heap.size w wr ∧ Bx 31 wr w.heap.size #[.int .i64 s, .slice A n cap] ∧ Bx 31 wr (w.heap.size + 1) #[.int .i64 t, .slice A2 n cap2] ∧ RR rowNf wr lo hi (.slice A n cap) ms ∧ RR rowNf wr lo2 hi2 (.slice A2 n cap2) ms2) (fun i _ => n - (intOf i).toNat)
      case atStart => exact ⟨0, rfl, by omega, by simp, B0.out, X0.out, Y0.out, Q0.out, R0.out⟩
      case round =>
        obtain ⟨k, rfl, ghk, ghe, gB1, gX1, gY1, gQ1, gR1⟩ := hrel
        have B1 := Lib.hid gB1
        have X1 := Lib.hid gX1
        have Y1 := Lib.hid gY1
        have Q1 := Lib.hid gQ1
        have R1 := Lib.hid gR1
        have hk := Lib.hid ghk
        have he := Lib.hid ghe
        clear gB1 gX1 gY1 gQ1 gR1 ghk ghe
        have LUX1 := Lib.hid X1.out.lt
        have LUY1 := Lib.hid Y1.out.lt
        have SBR1 := Lib.hid B1.out.size
        have hk := hk.out
        by_cases hlt : k < n
        · have hlt2 : (k : Int) < n := by omega
          obtain ⟨g, off, x, u, hA, hy, hg1, hg2, hru, hxu⟩ := ux.row_at (Q1.out : RR (row 85 nf) _ _ _ _ _) hlt
          obtain ⟨A0, n0, c0_, rfl, hb0⟩ := ux.nf_r hxu
          subst hA
          have k0 : wr.cell? ⟨g, off + k * 2, none⟩ = some (.int .i64 x.Seq) := hru 0 _ rfl
          have k1 : wr.cell? ⟨g, off + k * 2 + 1, none⟩ = some (.slice A0 n0 c0_) := hru 1 _ rfl
          have HY := Lib.hid hy
          have HN0 := Lib.hid (ux.rd_of hb0).len
          have hn0 := (ux.rd_of hb0).cap_
          have F1 := Lib.hid hb0
          clear hy hru hxu hb0 hg1 hg2
          have hlty := hlt
          obtain ⟨gy, offy, y, uy, hAy, hyy, hg1y, hg2y, hruy, hxuy⟩ := ux.row_at (R1.out : RR (row 85 nf) _ _ _ _ _) hlty
          obtain ⟨A0y, n0y, c0y_, rfl, hb0y⟩ := ux.nf_r hxuy
          subst hAy
          have k0y : wr.cell? ⟨gy, offy + k * 2, none⟩ = some (.int .i64 y.Seq) := hruy 0 _ rfl
          have k1y : wr.cell? ⟨gy, offy + k * 2 + 1, none⟩ = some (.slice A0y n0y c0y_) := hruy 1 _ rfl
          have HYy := Lib.hid hyy
          have HN0y := Lib.hid (ux.rd_of hb0y).len
          have hn0y := (ux.rd_of hb0y).cap_
          have Fy1 := Lib.hid hb0y
          clear hyy hruy hxuy hb0y hg1y hg2y
          have cX0 : wr.cell? ⟨w.heap.size, 0, none⟩ = some (.int .i64 s) := X1.out.cell 0
          have cX1 : wr.cell? ⟨w.heap.size, 1, none⟩ = some (.slice (some ⟨g, off, none⟩) n cap) := X1.out.cell 1
          have cY0 : wr.cell? ⟨w.heap.size + 1, 0, none⟩ = some (.int .i64 t) := Y1.out.cell 0
          have cY1 : wr.cell? ⟨w.heap.size + 1, 1, none⟩ = some (.slice (some ⟨gy, offy, none⟩) n cap2) := Y1.out.cell 1
          go_upto_region 6 with fail
          have mk0 := af_cell k0
          have mk1 := af_cell k1
          have mk0y := af_cell k0y
          have mk1y := af_cell k1y
          have mcX0 := af_cell cX0
          have mcX1 := af_cell cX1
          have mcY0 := af_cell cY0
          have mcY1 := af_cell cY1
          clear k0 k1 k0y k1y cX0 cX1 cY0 cY1
          by_cases e0 : x.Seq = y.Seq
          · obtain ⟨v, hv⟩ : ∃ v, decide (x.Body = y.Body) = v := ⟨_, rfl⟩
            have HV := Lib.hid (nf_eq e0 hv)
            have HVV := Lib.hid hv
            clear hv
            have q0 := Lib.hid (fun m => (eqs.specEqB x.Body y.Body _ _ _ _ A0 A0y n0 c0_ n0y c0y_ m.w (ux.rd_of (F1.out.below m.below)) (ux.rd_of (Fy1.out.below m.below))).mono fun e w9 hp => by obtain ⟨h1, h2⟩ := hp; exact ⟨by rw [h1, HVV.out], h2⟩ : ∀ m : bx.Af wr, Calls Try.prog 87 #[.slice A0 n0 c0_, .slice A0y n0y c0y_] m.w fun e w' => e = .returned (.bool v) ∧ Below m.w.heap.size m.w w')
            have g0 : decide (x.Seq = y.Seq) = true := decide_eq_true e0
            refine bx.region_after (by kernel_rfl) (by kernel_rfl) ?_
            repeat (go_big_quiet_step ((go_at_call 87; with_reducible exact bx.Af.call (q0.out _))))
            refine wpQuiet_nil ?_
            intro _ hw'
            obtain ⟨nq9, hw''⟩ := hw'
            subst hw''
            clear mk0 mk1 mk0y mk1y mcX0 mcX1 mcY0 mcY1 q0
            obtain ⟨w2, hw5⟩ : ∃ w5, nq9.w = w5 := ⟨_, rfl⟩
            have hb := nq9.below
            rw [hw5] at hb
            (try rw [hw5])
            clear hw5
            have SS2 := Lib.hid hb.size
            have B2 := Lib.hid (B1.out.trans (hb.mono B1.out.size))
            have X2 := Lib.hid (X1.out.below hb)
            have Y2 := Lib.hid (Y1.out.below hb)
            have Q2 := Lib.hid (Q1.out.below hb)
            have R2 := Lib.hid (R1.out.below hb)
            have F2 := Lib.hid (F1.out.below hb)
            have Fy2 := Lib.hid (Fy1.out.below hb)
            clear hb nq9 B1 X1 Y1 Q1 R1 F1 Fy1
            cases v with
            | true =>
              have HT := Lib.hid (ns_step he.out HY.out HYy.out HV.out)
              go_wp2_with fail
              go_roundw
              case rel => exact ⟨k + 1, by go_num, by omega, HT.out, B2.out, X2.out, Y2.out, Q2.out, R2.out⟩
              case measure => simp [intOf]; omega
            | false =>
              have HE := Lib.hid (show r = false by rw [← HR2.out]; exact ro_eq h0 (ns_ne HY.out HYy.out HV.out))
              go_wp2_with fail
              go_ret
              exact ⟨by rw [HE.out]; try rfl, B2.out⟩
          · have g0 : (x.Seq != y.Seq) = true := by simp [e0]
            refine bx.region_after (by kernel_rfl) (by kernel_rfl) ?_
            repeat (go_big_quiet_step (fail))
            refine wpQuiet_nil ?_
            intro _ hw'
            obtain ⟨nq9, hw''⟩ := hw'
            subst hw''
            clear mk0 mk1 mk0y mk1y mcX0 mcX1 mcY0 mcY1
            obtain ⟨w2, hw5⟩ : ∃ w5, nq9.w = w5 := ⟨_, rfl⟩
            have hb := nq9.below
            rw [hw5] at hb
            (try rw [hw5])
            clear hw5
            have SS2 := Lib.hid hb.size
            have B2 := Lib.hid (B1.out.trans (hb.mono B1.out.size))
            have X2 := Lib.hid (X1.out.below hb)
            have Y2 := Lib.hid (Y1.out.below hb)
            have Q2 := Lib.hid (Q1.out.below hb)
            have R2 := Lib.hid (R1.out.below hb)
            have F2 := Lib.hid (F1.out.below hb)
            have Fy2 := Lib.hid (Fy1.out.below hb)
            clear hb nq9 B1 X1 Y1 Q1 R1 F1 Fy1
            have HE := Lib.hid (show r = false by rw [← HR2.out]; exact ro_eq h0 (ns_ne HY.out HYy.out (nf_ne fun d0 _ => e0 d0)))
            go_wp2_with fail
            go_ret
            exact ⟨by rw [HE.out]; try rfl, B2.out⟩
        · have hlt2 : ¬ (k : Int) < n := by omega
          obtain rfl : n = k := by omega
          have HE := Lib.hid (show r = true by rw [← HR2.out]; exact ro_eq h0 (ns_all HL1.out HL2.out he.out))
          have cX0 : wr.cell? ⟨w.heap.size, 0, none⟩ = some (.int .i64 s) := X1.out.cell 0
          have cX1 : wr.cell? ⟨w.heap.size, 1, none⟩ = some (.slice A n cap) := X1.out.cell 1
          have cY0 : wr.cell? ⟨w.heap.size + 1, 0, none⟩ = some (.int .i64 t) := Y1.out.cell 0
          have cY1 : wr.cell? ⟨w.heap.size + 1, 1, none⟩ = some (.slice A2 n cap2) := Y1.out.cell 1
          go_wp2_with fail
          go_ret
          exact ⟨by rw [HE.out]; try rfl, B1.out⟩
    · have cX0 : w0.cell? ⟨w.heap.size, 0, none⟩ = some (.int .i64 s) := X0.out.cell 0
      have cX1 : w0.cell? ⟨w.heap.size, 1, none⟩ = some (.slice A n cap) := X0.out.cell 1
      have cY0 : w0.cell? ⟨w.heap.size + 1, 0, none⟩ = some (.int .i64 t) := Y0.out.cell 0
      have cY1 : w0.cell? ⟨w.heap.size + 1, 1, none⟩ = some (.slice A2 n2 cap2) := Y0.out.cell 1
      have hn2 : ¬ (n : Int) = (n2 : Int) := by omega
      have HE := Lib.hid (show r = false by rw [← HR2.out]; exact ro_eq h0 (ns_len HL1.out HL2.out hne))
      go_wp2_with fail
      go_ret
      exact ⟨by rw [HE.out]; try rfl, B0.out⟩
  · have cX0 : w0.cell? ⟨w.heap.size, 0, none⟩ = some (.int .i64 s) := X0.out.cell 0
    have cX1 : w0.cell? ⟨w.heap.size, 1, none⟩ = some (.slice A n cap) := X0.out.cell 1
    have cY0 : w0.cell? ⟨w.heap.size + 1, 0, none⟩ = some (.int .i64 t) := Y0.out.cell 0
    have cY1 : w0.cell? ⟨w.heap.size + 1, 1, none⟩ = some (.slice A2 n2 cap2) := Y0.out.cell 1
    have HE := Lib.hid (show r = false by rw [← HR2.out]; exact ro_ne h0)
    go_wp2_with fail
    go_ret
    exact ⟨by rw [HE.out]; try rfl, B0.out⟩
end Go.Proofs.Ytmmhleobgpgliaa.ro
