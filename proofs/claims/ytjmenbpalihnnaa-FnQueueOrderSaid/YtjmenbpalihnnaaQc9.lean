/- EnqueueMessage and TakeMessage of the specification. Condition: sizes up to 2^26. -/
import Derived.Test.YtjmenbpalihnnaaQc8
import Derived.Test.YtjmenbpalihnnaaMrf
namespace Go.Proofs.Ytjmenbpalihnnaa.mq
open Go.RowKit sl harn bx mrw
set_option linter.unusedVariables false
set_option linter.unusedSimpArgs false

set_option maxRecDepth 100000 in
set_option maxHeartbeats 4000000 in
theorem specEn (x : Msg) (Am : Option Addr) (nm cm lo2 hi2 : Nat) (ms : List Msg) (d : Int) (A : Option Addr) (n cap lo hi : Nat) (hn : n ≤ 67108864) (hbd : ∀ y ∈ ms, y.2.2.2.length ≤ 67108864) (w : World) (h : Rq msg w lo hi A n cap ms) (hx : Rd .u8 w lo2 hi2 Am nm cm x.2.2.2) (hxn : nm ≤ 67108864) :
    Calls Try.prog 99 #[qV A n cap d, mV x Am nm cm] w (QPost (enq ms d x) w) := by
  obtain ⟨i0, hi0, hz0, hz1, hz2⟩ := info_parts infoM
  have HZ := Lib.hid (And.intro hi0 (And.intro hz0 (And.intro hz1 hz2)))
  clear hi0 hz0 hz1 hz2
  have QW := Lib.hid h
  have hqh := h.hi_
  have hqc := h.cap_
  have HBD := Lib.hid hbd
  clear h hbd
  have RW := Lib.hid hx
  have hrh := hx.hi_
  have HXN := Lib.hid hxn
  have HN := Lib.hid hn
  have HLN0 := Lib.hid QW.out.len
  obtain ⟨v0, h0⟩ : ∃ v, vq ms d = v := ⟨_, rfl⟩
  obtain ⟨v1, h1⟩ : ∃ v, vm x = v := ⟨_, rfl⟩
  have HQV := Lib.hid h0
  have HMV := Lib.hid h1
  clear hx hxn hn h0 h1
  go_enter Try.func99, Try.ntmps99
  go_wp2_with fail
  obtain ⟨w0, hW⟩ : ∃ w0, ((w.alloc (.cells #[.slice A n cap, .int .i64 d] 26)).alloc (.cells #[.int .i64 x.1, .int .i64 x.2.1, .int .i64 x.2.2.1, .slice Am nm cm] 28)).alloc (.cells #[.slice none 0 0, .int .i64 0] 26) = w0 := ⟨_, rfl⟩
  rw [hW]
  have B0 := Lib.hid (show Below w.heap.size w w0 by rw [← hW]; exact (((Below.refl _ _).alloc (by simp <;> omega) _).alloc (by simp <;> omega) _).alloc (by simp <;> omega) _)
  have X0 := Lib.hid (show Bx 26 w0 (w.heap.size) #[.slice A n cap, .int .i64 d] by
      rw [← hW]
      have hh := Bx.made 26 w #[.slice A n cap, .int .i64 d]
      exact ((hh.below (below_box _ _)).below (below_box _ _)))
  have M0 := Lib.hid (show Bx 28 w0 (w.heap.size + 1) #[.int .i64 x.1, .int .i64 x.2.1, .int .i64 x.2.2.1, .slice Am nm cm] by
      rw [← hW]
      have hh : Bx 28 ((w.alloc (.cells #[.slice A n cap, .int .i64 d] 26)).alloc (.cells #[.int .i64 x.1, .int .i64 x.2.1, .int .i64 x.2.2.1, .slice Am nm cm] 28)) (w.heap.size + 1) #[.int .i64 x.1, .int .i64 x.2.1, .int .i64 x.2.2.1, .slice Am nm cm] := by have hh := Bx.made 28 (w.alloc (.cells #[.slice A n cap, .int .i64 d] 26)) #[.int .i64 x.1, .int .i64 x.2.1, .int .i64 x.2.2.1, .slice Am nm cm]; simpa using hh
      exact (hh.below (below_box _ _)))
  have Z0 := Lib.hid (show Bx 26 w0 (w.heap.size + 1 + 1) #[.slice none 0 0, .int .i64 0] by
      rw [← hW]
      have hh : Bx 26 (((w.alloc (.cells #[.slice A n cap, .int .i64 d] 26)).alloc (.cells #[.int .i64 x.1, .int .i64 x.2.1, .int .i64 x.2.2.1, .slice Am nm cm] 28)).alloc (.cells #[.slice none 0 0, .int .i64 0] 26)) (w.heap.size + 1 + 1) #[.slice none 0 0, .int .i64 0] := by have hh := Bx.made 26 ((w.alloc (.cells #[.slice A n cap, .int .i64 d] 26)).alloc (.cells #[.int .i64 x.1, .int .i64 x.2.1, .int .i64 x.2.2.1, .slice Am nm cm] 28)) #[.slice none 0 0, .int .i64 0]; simpa using hh
      exact hh)
  have Q0 := Lib.hid (show Rq msg w0 lo hi A n cap ms by rw [← hW]; exact (((QW.out.below (below_box _ _)).below (below_box _ _)).below (below_box _ _)))
  have R0 := Lib.hid (show Rd .u8 w0 (lo2) (hi2) Am nm cm x.2.2.2 by rw [← hW]; exact (((RW.out.below (below_box _ _)).below (below_box _ _)).below (below_box _ _)))
  clear hW
  have LTX := Lib.hid X0.out.lt
  have LTM := Lib.hid M0.out.lt
  have LTZ := Lib.hid Z0.out.lt
  (with_reducible refine (specCq ms d A n cap lo hi HN.out HBD.out _ Q0.out).mono ?_)
  rintro e w1 hp
  obtain ⟨A1, n1, c1, es, rfl, gHES, ho, hb⟩ := q_parts hp
  clear hp
  obtain rfl : n = n1 := by have h1 := ho.len; have h2 := congrArg List.length gHES; have h3 := Q0.out.len; simp at h2; omega
  have HES := Lib.hid gHES
  clear gHES
  have SS1 := Lib.hid hb.size
  have B1 := Lib.hid (B0.out.trans (hb.mono B0.out.size))
  have X1 := Lib.hid (X0.out.below hb)
  have M1 := Lib.hid (M0.out.below hb)
  have Z1 := Lib.hid (Z0.out.below hb)
  have Q1 := Lib.hid (Q0.out.below hb)
  have R1 := Lib.hid (R0.out.below hb)
  clear hb B0 X0 M0 Z0 Q0 R0
  have O1 := Lib.hid ho
  clear ho
  go_upto_region 2 with fail
  obtain ⟨bp, hbb⟩ : ∃ b, w1.heap.size = b := ⟨_, rfl⟩
  generalize hW : w1.alloc (.cells #[.slice A1 n c1, .int .i64 d] 26) = w2
  have LP := Lib.hid (show w.heap.size ≤ bp ∧ w.heap.size < bp ∧ w.heap.size + 1 < bp ∧ w.heap.size + 1 + 1 < bp ∧ hi ≤ bp ∧ hi2 ≤ bp ∧ w1.heap.size ≤ bp by have h1 := B1.out.size; have h2X := X1.out.lt; have h2M := M1.out.lt; have h2Z := Z1.out.lt; have h2Q := Q1.out.hi_; have h2R := R1.out.hi_; have h2O := O1.out.hi_; have h3 := hbb; omega)
  have P2 := Lib.hid (show Bx 26 w2 bp #[.slice A1 n c1, .int .i64 d] by rw [← hW, ← hbb]; exact Bx.made _ _ _)
  have hb : Below w1.heap.size w1 w2 := by rw [← hW]; exact below_box _ _
  (try rw [hbb])
  clear hW hbb
  have SS2 := Lib.hid hb.size
  have B2 := Lib.hid (B1.out.trans (hb.mono B1.out.size))
  have X2 := Lib.hid (X1.out.below hb)
  have M2 := Lib.hid (M1.out.below hb)
  have Z2 := Lib.hid (Z1.out.below hb)
  have Q2 := Lib.hid (Q1.out.below hb)
  have R2 := Lib.hid (R1.out.below hb)
  have O2 := Lib.hid (O1.out.below hb)
  clear hb B1 X1 M1 Z1 Q1 R1 O1
  have LWP := Lib.hid P2.out.lt
  have cX0 : w2.cell? ⟨w.heap.size, 0, none⟩ = some (.slice A n cap) := X2.out.cell 0
  have cX1 : w2.cell? ⟨w.heap.size, 1, none⟩ = some (.int .i64 d) := X2.out.cell 1
  go_wp2_with fail
  clear cX0 cX1
  (with_reducible refine (specVq ms d A n cap _ _ _ Q2.out).mono ?_)
  rintro e w3 hp
  obtain ⟨rfl, hb⟩ := b_parts HQV.out hp
  clear hp
  have SS3 := Lib.hid hb.size
  have B3 := Lib.hid (B2.out.trans (hb.mono B2.out.size))
  have X3 := Lib.hid (X2.out.below hb)
  have M3 := Lib.hid (M2.out.below hb)
  have Z3 := Lib.hid (Z2.out.below hb)
  have P3 := Lib.hid (P2.out.below hb)
  have Q3 := Lib.hid (Q2.out.below hb)
  have R3 := Lib.hid (R2.out.below hb)
  have O3 := Lib.hid (O2.out.below hb)
  clear hb  B2 X2 M2 Z2 P2 Q2 R2 O2
  cases v0 with
  | true =>
    have cM0 : w3.cell? ⟨w.heap.size + 1, 0, none⟩ = some (.int .i64 x.1) := M3.out.cell 0
    have cM1 : w3.cell? ⟨w.heap.size + 1, 1, none⟩ = some (.int .i64 x.2.1) := M3.out.cell 1
    have cM2 : w3.cell? ⟨w.heap.size + 1, 2, none⟩ = some (.int .i64 x.2.2.1) := M3.out.cell 2
    have cM3 : w3.cell? ⟨w.heap.size + 1, 3, none⟩ = some (.slice Am nm cm) := M3.out.cell 3
    go_wp2_with fail
    clear cM0 cM1 cM2 cM3
    (with_reducible refine (specVm x Am nm cm R3.out.len _).mono ?_)
    rintro e w4 hp
    obtain ⟨rfl, hb⟩ := b_parts HMV.out hp
    clear hp
    have SS4 := Lib.hid hb.size
    have B4 := Lib.hid (B3.out.trans (hb.mono B3.out.size))
    have X4 := Lib.hid (X3.out.below hb)
    have M4 := Lib.hid (M3.out.below hb)
    have Z4 := Lib.hid (Z3.out.below hb)
    have P4 := Lib.hid (P3.out.below hb)
    have Q4 := Lib.hid (Q3.out.below hb)
    have R4 := Lib.hid (R3.out.below hb)
    have O4 := Lib.hid (O3.out.below hb)
    clear hb  B3 X3 M3 Z3 P3 Q3 R3 O3
    cases v1 with
    | true =>
      have hn12 : n ≤ 12 := by have h := HQV.out; unfold vq at h; rw [HLN0.out] at h; simp at h; omega
      have cM0 : w4.cell? ⟨w.heap.size + 1, 0, none⟩ = some (.int .i64 x.1) := M4.out.cell 0
      have cM1 : w4.cell? ⟨w.heap.size + 1, 1, none⟩ = some (.int .i64 x.2.1) := M4.out.cell 1
      have cM2 : w4.cell? ⟨w.heap.size + 1, 2, none⟩ = some (.int .i64 x.2.2.1) := M4.out.cell 2
      have cM3 : w4.cell? ⟨w.heap.size + 1, 3, none⟩ = some (.slice Am nm cm) := M4.out.cell 3
      go_wp2_with fail
      clear cM0 cM1 cM2 cM3
      (with_reducible refine (specCm x Am nm cm _ _ _ R4.out HXN.out).mono ?_)
      rintro e w5 hp
      obtain ⟨A2, n2, c2, rfl, ho2, hb⟩ := x_parts hp
      clear hp
      have SS5 := Lib.hid hb.size
      have B5 := Lib.hid (B4.out.trans (hb.mono B4.out.size))
      have X5 := Lib.hid (X4.out.below hb)
      have M5 := Lib.hid (M4.out.below hb)
      have Z5 := Lib.hid (Z4.out.below hb)
      have P5 := Lib.hid (P4.out.below hb)
      have Q5 := Lib.hid (Q4.out.below hb)
      have R5 := Lib.hid (R4.out.below hb)
      have O5 := Lib.hid (O4.out.below hb)
      clear hb B4 X4 M4 Z4 P4 Q4 R4 O4
      have H5 := Lib.hid ho2
      clear ho2
      go_upto_region 5 with fail
      obtain ⟨bv, hbb⟩ : ∃ b, w5.heap.size = b := ⟨_, rfl⟩
      generalize hW : w5.alloc (.cells #[.int .i64 x.1, .int .i64 x.2.1, .int .i64 x.2.2.1, .slice A2 n2 c2] 28) = w6
      have LV := Lib.hid (show w.heap.size ≤ bv ∧ w.heap.size < bv ∧ w.heap.size + 1 < bv ∧ w.heap.size + 1 + 1 < bv ∧ bp < bv ∧ hi ≤ bv ∧ w1.heap.size ≤ bv ∧ w5.heap.size ≤ bv by have h1 := B5.out.size; have h2X := X5.out.lt; have h2M := M5.out.lt; have h2Z := Z5.out.lt; have h2P := P5.out.lt; have h2Q := Q5.out.hi_; have h2O := O5.out.hi_; have h2H := H5.out.hi_; have h3 := hbb; omega)
      have V6 := Lib.hid (show Bx 28 w6 bv #[.int .i64 x.1, .int .i64 x.2.1, .int .i64 x.2.2.1, .slice A2 n2 c2] by rw [← hW, ← hbb]; exact Bx.made _ _ _)
      have hb : Below w5.heap.size w5 w6 := by rw [← hW]; exact below_box _ _
      (try rw [hbb])
      clear hW hbb
      have SS6 := Lib.hid hb.size
      have B6 := Lib.hid (B5.out.trans (hb.mono B5.out.size))
      have X6 := Lib.hid (X5.out.below hb)
      have M6 := Lib.hid (M5.out.below hb)
      have Z6 := Lib.hid (Z5.out.below hb)
      have P6 := Lib.hid (P5.out.below hb)
      have Q6 := Lib.hid (Q5.out.below hb)
      have O6 := Lib.hid (O5.out.below hb)
      have H6 := Lib.hid (H5.out.below hb)
      clear hb B5 X5 M5 Z5 P5 Q5 O5 H5
      have LWV := Lib.hid V6.out.lt
      have cP0 : w6.cell? ⟨bp, 0, none⟩ = some (.slice A1 n c1) := P6.out.cell 0
      have cV0 : w6.cell? ⟨bv, 0, none⟩ = some (.int .i64 x.1) := V6.out.cell 0
      have cV1 : w6.cell? ⟨bv, 1, none⟩ = some (.int .i64 x.2.1) := V6.out.cell 1
      have cV2 : w6.cell? ⟨bv, 2, none⟩ = some (.int .i64 x.2.2.1) := V6.out.cell 2
      have cV3 : w6.cell? ⟨bv, 3, none⟩ = some (.slice A2 n2 c2) := V6.out.cell 3
      go_upto_region 6 with (at_builtin; refine list_push w6 rfl _ _ 24 rfl Try.underlying24 HZ.out.1 HZ.out.2.1 HZ.out.2.2.1 (by rw [HZ.out.2.2.2]; omega) rfl rfl rfl O6.out ⟨x, A2, n2, c2⟩ H6.out (by have hlP := LP.out; have hlV := LV.out; have hs0 := LTX.out; have hs1 := LTM.out; have hs2 := LTZ.out; have hs3 := SS1.out; have hs4 := SS2.out; have hs5 := LWP.out; have hs6 := SS3.out; have hs7 := SS4.out; have hs8 := SS5.out; have hs9 := SS6.out; have hs10 := LWV.out; first | omega | (simp <;> omega)) (by have hlP := LP.out; have hlV := LV.out; have hs0 := LTX.out; have hs1 := LTM.out; have hs2 := LTZ.out; have hs3 := SS1.out; have hs4 := SS2.out; have hs5 := LWP.out; have hs6 := SS3.out; have hs7 := SS4.out; have hs8 := SS5.out; have hs9 := SS6.out; have hs10 := LWV.out; first | omega | (simp <;> omega)) (by omega) (by have hlP := LP.out; have hlV := LV.out; have hs0 := LTX.out; have hs1 := LTM.out; have hs2 := LTZ.out; have hs3 := SS1.out; have hs4 := SS2.out; have hs5 := LWP.out; have hs6 := SS3.out; have hs7 := SS4.out; have hs8 := SS5.out; have hs9 := SS6.out; have hs10 := LWV.out; first | omega | (simp <;> omega)) ?_; intro A3 c3 w7 ho hg; have B7 := Lib.hid (below_grown B6.out hg (fun q hq => by have hlP := LP.out; have hlV := LV.out; have hs0 := LTX.out; have hs1 := LTM.out; have hs2 := LTZ.out; have hs3 := SS1.out; have hs4 := SS2.out; have hs5 := LWP.out; have hs6 := SS3.out; have hs7 := SS4.out; have hs8 := SS5.out; have hs9 := SS6.out; have hs10 := LWV.out; have := (O6.out.lo_ hq).1; omega) B6.out.size); have X7 := Lib.hid (grown_bx X6.out hg (rgp.ne_type X6.out O6.out (by decide))); have M7 := Lib.hid (grown_bx M6.out hg (fun e => by have hlP := LP.out; have hlV := LV.out; have hs0 := LTX.out; have hs1 := LTM.out; have hs2 := LTZ.out; have hs3 := SS1.out; have hs4 := SS2.out; have hs5 := LWP.out; have hs6 := SS3.out; have hs7 := SS4.out; have hs8 := SS5.out; have hs9 := SS6.out; have hs10 := LWV.out; have := O6.out.lo_ e.symm; omega)); have Z7 := Lib.hid (grown_bx Z6.out hg (rgp.ne_type Z6.out O6.out (by decide))); have P7 := Lib.hid (grown_bx P6.out hg (rgp.ne_type P6.out O6.out (by decide))); have V7 := Lib.hid (grown_bx V6.out hg (fun e => by have hlP := LP.out; have hlV := LV.out; have hs0 := LTX.out; have hs1 := LTM.out; have hs2 := LTZ.out; have hs3 := SS1.out; have hs4 := SS2.out; have hs5 := LWP.out; have hs6 := SS3.out; have hs7 := SS4.out; have hs8 := SS5.out; have hs9 := SS6.out; have hs10 := LWV.out; have := O6.out.lo_ e.symm; omega)); have Q7 := Lib.hid (rq_grown Q6.out O6.out hg (by have hlP := LP.out; have hlV := LV.out; have hs0 := LTX.out; have hs1 := LTM.out; have hs2 := LTZ.out; have hs3 := SS1.out; have hs4 := SS2.out; have hs5 := LWP.out; have hs6 := SS3.out; have hs7 := SS4.out; have hs8 := SS5.out; have hs9 := SS6.out; have hs10 := LWV.out; first | omega | (simp <;> omega))); have H7 := Lib.hid (ow_grown O6.out hg H6.out); have SS7 := Lib.hid hg.size; clear B6 X6 M6 Z6 P6 V6 Q6 O6 H6; have O7 := Lib.hid ho; clear ho hg; have cP0 : w7.cell? ⟨bp, 0, none⟩ = some (.slice A1 n c1) := P7.out.cell 0; have fP0 : w7.frozen? ⟨bp, 0, none⟩ = false := P7.out.free 0)
      clear cP0 cV0 cV1 cV2 cV3
      clear cP0 fP0
      have hWW : (w7.setCell ⟨bp, 0, none⟩ (.slice A3 (n + 1) c3)) = (w7.setCell ⟨bp, 0, none⟩ (.slice A3 (n + 1) c3)) := rfl
      obtain ⟨w8, hW⟩ : ∃ wy, (w7.setCell ⟨bp, 0, none⟩ (.slice A3 (n + 1) c3)) = wy := ⟨_, rfl⟩
      rw [hW]
      clear hWW
      have B8 := Lib.hid (show Below w.heap.size w w8 by rw [← hW]; exact (B7.out.setCell (p := ⟨bp, 0, none⟩) (by have hlP := LP.out; have hlV := LV.out; have hs0 := LTX.out; have hs1 := LTM.out; have hs2 := LTZ.out; have hs3 := SS1.out; have hs4 := SS2.out; have hs5 := LWP.out; have hs6 := SS3.out; have hs7 := SS4.out; have hs8 := SS5.out; have hs9 := SS6.out; have hs10 := LWV.out; have hs11 := SS7.out; first | omega | (simp <;> omega)) _))
      have X8 := Lib.hid (show Bx 26 w8 (w.heap.size) #[.slice A n cap, .int .i64 d] by rw [← hW]; exact (X7.out.other (by have hlP := LP.out; have hlV := LV.out; have hs0 := LTX.out; have hs1 := LTM.out; have hs2 := LTZ.out; have hs3 := SS1.out; have hs4 := SS2.out; have hs5 := LWP.out; have hs6 := SS3.out; have hs7 := SS4.out; have hs8 := SS5.out; have hs9 := SS6.out; have hs10 := LWV.out; have hs11 := SS7.out; first | omega | (simp <;> omega)) _ _))
      have M8 := Lib.hid (show Bx 28 w8 (w.heap.size + 1) #[.int .i64 x.1, .int .i64 x.2.1, .int .i64 x.2.2.1, .slice Am nm cm] by rw [← hW]; exact (M7.out.other (by have hlP := LP.out; have hlV := LV.out; have hs0 := LTX.out; have hs1 := LTM.out; have hs2 := LTZ.out; have hs3 := SS1.out; have hs4 := SS2.out; have hs5 := LWP.out; have hs6 := SS3.out; have hs7 := SS4.out; have hs8 := SS5.out; have hs9 := SS6.out; have hs10 := LWV.out; have hs11 := SS7.out; first | omega | (simp <;> omega)) _ _))
      have Z8 := Lib.hid (show Bx 26 w8 (w.heap.size + 1 + 1) #[.slice none 0 0, .int .i64 0] by rw [← hW]; exact (Z7.out.other (by have hlP := LP.out; have hlV := LV.out; have hs0 := LTX.out; have hs1 := LTM.out; have hs2 := LTZ.out; have hs3 := SS1.out; have hs4 := SS2.out; have hs5 := LWP.out; have hs6 := SS3.out; have hs7 := SS4.out; have hs8 := SS5.out; have hs9 := SS6.out; have hs10 := LWV.out; have hs11 := SS7.out; first | omega | (simp <;> omega)) _ _))
      have P8 := Lib.hid (show Bx 26 w8 (bp) #[.slice A3 (n + 1) c3, .int .i64 d] by rw [← hW]; exact (P7.out.set 0 _))
      have V8 := Lib.hid (show Bx 28 w8 (bv) #[.int .i64 x.1, .int .i64 x.2.1, .int .i64 x.2.2.1, .slice A2 n2 c2] by rw [← hW]; exact (V7.out.other (by have hlP := LP.out; have hlV := LV.out; have hs0 := LTX.out; have hs1 := LTM.out; have hs2 := LTZ.out; have hs3 := SS1.out; have hs4 := SS2.out; have hs5 := LWP.out; have hs6 := SS3.out; have hs7 := SS4.out; have hs8 := SS5.out; have hs9 := SS6.out; have hs10 := LWV.out; have hs11 := SS7.out; first | omega | (simp <;> omega)) _ _))
      have Q8 := Lib.hid (show Rq msg w8 lo hi A n cap ms by rw [← hW]; exact (Q7.out.same (by simp [World.setCell]) fun b h1 h2 => by rw [Below.heap_setCell _ _ _ _ (by have hlP := LP.out; have hlV := LV.out; have hs0 := LTX.out; have hs1 := LTM.out; have hs2 := LTZ.out; have hs3 := SS1.out; have hs4 := SS2.out; have hs5 := LWP.out; have hs6 := SS3.out; have hs7 := SS4.out; have hs8 := SS5.out; have hs9 := SS6.out; have hs10 := LWV.out; have hs11 := SS7.out; first | omega | (simp <;> omega))]))
      have O8 := Lib.hid (show Oe msg w8 w0.heap.size w7.heap.size A3 (n + 1) c3 (es ++ [⟨x, A2, n2, c2⟩]) by rw [← hW]; exact (rgp.oe_setCell O7.out P7.out (by decide) (by decide) 0 _))
      clear hW B7 X7 M7 Z7 P7 V7 Q7 O7
      obtain ⟨f3, hf3⟩ : ∃ f : El Msg, f = ⟨x, A2, n2, c2⟩ := ⟨_, rfl⟩
      rw [← hf3] at O8
      have HEQ := Lib.hid (show (es ++ [f3]).map (·.x) = ms ++ [x] by rw [List.map_append, HES.out, hf3]; rfl)
      have HLL := Lib.hid (show (ms ++ [x]).length = n + 1 by rw [List.length_append, HLN0.out]; rfl)
      clear hf3
      have cP0 : w8.cell? ⟨bp, 0, none⟩ = some (.slice A3 (n + 1) c3) := P8.out.cell 0
      have cP1 : w8.cell? ⟨bp, 1, none⟩ = some (.int .i64 d) := P8.out.cell 1
      by_cases hle : n + 1 ≤ 12
      · have hd1 : decide ((n : Int) + 1 ≤ 12) = true := decide_eq_true (by omega)
        have HE := Lib.hid (show enq ms d x = (ms ++ [x], d) by unfold enq; rw [HQV.out, HMV.out, if_pos (show (true && true) = true from rfl), if_pos (by rw [HLL.out]; exact hle)])
        go_wp2_with (first | (refine stw.list_load rfl 26 _ rfl (bp) rfl 26 _ P8.out Try.underlying26 rfl szQ ?_) | (refine stw.list_store rfl 26 _ _ rfl (w.heap.size + 1 + 1) #[.slice A3 (n + 1) c3, .int .i64 d] rfl rfl 26 _ Z8.out rfl szQ (oneQ _ _ _ _) ?_; intro wz9 hz))
        clear cP0 cP1
        have B9 := Lib.hid (hz.on B8.out (by have hlP := LP.out; have hlV := LV.out; have hs0 := LTX.out; have hs1 := LTM.out; have hs2 := LTZ.out; have hs3 := SS1.out; have hs4 := SS2.out; have hs5 := LWP.out; have hs6 := SS3.out; have hs7 := SS4.out; have hs8 := SS5.out; have hs9 := SS6.out; have hs10 := LWV.out; have hs11 := SS7.out; first | omega | (simp <;> omega)))
        have X9 := Lib.hid (hz.keep X8.out (by have hlP := LP.out; have hlV := LV.out; have hs0 := LTX.out; have hs1 := LTM.out; have hs2 := LTZ.out; have hs3 := SS1.out; have hs4 := SS2.out; have hs5 := LWP.out; have hs6 := SS3.out; have hs7 := SS4.out; have hs8 := SS5.out; have hs9 := SS6.out; have hs10 := LWV.out; have hs11 := SS7.out; first | omega | (simp <;> omega)))
        have M9 := Lib.hid (hz.keep M8.out (by have hlP := LP.out; have hlV := LV.out; have hs0 := LTX.out; have hs1 := LTM.out; have hs2 := LTZ.out; have hs3 := SS1.out; have hs4 := SS2.out; have hs5 := LWP.out; have hs6 := SS3.out; have hs7 := SS4.out; have hs8 := SS5.out; have hs9 := SS6.out; have hs10 := LWV.out; have hs11 := SS7.out; first | omega | (simp <;> omega)))
        have Z9 := Lib.hid (hz.box)
        have P9 := Lib.hid (hz.keep P8.out (by have hlP := LP.out; have hlV := LV.out; have hs0 := LTX.out; have hs1 := LTM.out; have hs2 := LTZ.out; have hs3 := SS1.out; have hs4 := SS2.out; have hs5 := LWP.out; have hs6 := SS3.out; have hs7 := SS4.out; have hs8 := SS5.out; have hs9 := SS6.out; have hs10 := LWV.out; have hs11 := SS7.out; first | omega | (simp <;> omega)))
        have V9 := Lib.hid (hz.keep V8.out (by have hlP := LP.out; have hlV := LV.out; have hs0 := LTX.out; have hs1 := LTM.out; have hs2 := LTZ.out; have hs3 := SS1.out; have hs4 := SS2.out; have hs5 := LWP.out; have hs6 := SS3.out; have hs7 := SS4.out; have hs8 := SS5.out; have hs9 := SS6.out; have hs10 := LWV.out; have hs11 := SS7.out; first | omega | (simp <;> omega)))
        have Q9 := Lib.hid (Q8.out.same hz.below.size fun b h1 h2 => hz.other b (by have hlP := LP.out; have hlV := LV.out; have hs0 := LTX.out; have hs1 := LTM.out; have hs2 := LTZ.out; have hs3 := SS1.out; have hs4 := SS2.out; have hs5 := LWP.out; have hs6 := SS3.out; have hs7 := SS4.out; have hs8 := SS5.out; have hs9 := SS6.out; have hs10 := LWV.out; have hs11 := SS7.out; first | omega | (simp <;> omega)))
        have O9 := Lib.hid (rgp.oe_set O8.out Z8.out (by decide) (by decide) hz.below.size (fun k hk => hz.other k hk))
        clear hz B8 X8 M8 Z8 P8 V8 Q8 O8
        (try simp only [Exit.inBlock, Exit.then])
        refine bodyPost_ret (v := .agg #[.slice A3 (n + 1) c3, .int .i64 d]) ?_ rfl ?_
        · rw [results_cell1 rfl]
          exact stw.back Z9.out Try.underlying26 rfl szQ
        · exact by rw [HE.out]; exact ⟨_, _, _, rfl, ⟨_, HEQ.out, (O9.out).up.down (by have hlP := LP.out; have hlV := LV.out; have hs0 := LTX.out; have hs1 := LTM.out; have hs2 := LTZ.out; have hs3 := SS1.out; have hs4 := SS2.out; have hs5 := LWP.out; have hs6 := SS3.out; have hs7 := SS4.out; have hs8 := SS5.out; have hs9 := SS6.out; have hs10 := LWV.out; have hs11 := SS7.out; first | omega | (simp <;> omega))⟩, B9.out⟩
      · have hd1 : decide ((n : Int) + 1 ≤ 12) = false := decide_eq_false (by omega)
        obtain ⟨u, hu⟩ : ∃ u, IntKind.i64.wrap (d + 1) = u := ⟨_, rfl⟩
        have HU := Lib.hid hu
        obtain ⟨N, hN⟩ : ∃ N, n + 1 = N := ⟨_, rfl⟩
        have hN2 : (n : Int) + 1 = (N : Int) := by omega
        have HE := Lib.hid (show ∀ zi : Nat, bst le (ms ++ [x]) N = (zi : Int) → enq ms d x = ((ms ++ [x]).eraseIdx zi, u) from fun zi hz => by unfold enq; rw [HQV.out, HMV.out, if_pos (show (true && true) = true from rfl), if_neg (by rw [HLL.out]; exact hle), HLL.out, hN, hz, hu, Int.toNat_natCast])
        obtain ⟨g, hgA⟩ := oe_some O8.out (by omega)
        subst hgA
        rw [hN] at HLL
        have HNN := Lib.hid hN
        clear hu
        clear cP0 cP1
        have O58 := Lib.hid (show Oe msg w8 w0.heap.size w7.heap.size (some ⟨g, 0, none⟩) N c3 (es ++ [f3]) by rw [← hN]; exact O8.out)
        have P58 := Lib.hid (show Bx 26 w8 bp #[.slice (some ⟨g, 0, none⟩) N c3, .int .i64 d] by rw [← hN]; exact P8.out)
        clear O8 P8
        have O8 := O58
        have P8 := P58
        clear O58 P58
        have hd1 : decide ((N : Int) ≤ 12) = false := decide_eq_false (by omega)
        have hN1 : 0 < N := by omega
        have hN3 : N ≤ 13 := by omega
        have hN4 : (((n + 1 : Nat)) : Int) = (N : Int) := by omega
        have G8 := Lib.hid (show Rq msg w8 w0.heap.size w7.heap.size (some ⟨g, 0, none⟩) N c3 (ms ++ [x]) by rw [← HEQ.out]; exact O8.out.rq)
        have cP0 : w8.cell? ⟨bp, 0, none⟩ = some (.slice (some ⟨g, 0, none⟩) N c3) := P8.out.cell 0
        have cP1 : w8.cell? ⟨bp, 1, none⟩ = some (.int .i64 d) := P8.out.cell 1
        skip
        go_wp2_with fail
        clear hN hN2 hN4 hd1
        clear cP0 cP1
        go_loopw [7, 8] (fun v0 v1 wr => ∃ (k : Nat) (zi : Nat), v0 = .int .i64 ((zi : Int)) ∧ v1 = .int .i64 ((k : Int)) ∧ (k ≤ N) ∧ (((zi : Int) = bst le (ms ++ [x]) k ∨ (k = 0 ∧ zi = 0)) ∧ zi < N) ∧ Below w.heap.size w wr ∧ Bx 26 wr w.heap.size #[.slice A n cap, .int .i64 d] ∧ Bx 28 wr (w.heap.size + 1) #[.int .i64 x.1, .int .i64 x.2.1, .int .i64 x.2.2.1, .slice Am nm cm] ∧ Bx 26 wr (w.heap.size + 1 + 1) #[.slice none 0 0, .int .i64 0] ∧ Bx 26 wr bp #[.slice (some ⟨g, 0, none⟩) N c3, .int .i64 d] ∧ Bx 28 wr bv #[.int .i64 x.1, .int .i64 x.2.1, .int .i64 x.2.2.1, .slice A2 n2 c2] ∧ Rq msg wr lo hi A n cap ms ∧ Oe msg wr w0.heap.size w7.heap.size (some ⟨g, 0, none⟩) N c3 (es ++ [f3]) ∧ Rq msg wr w0.heap.size w7.heap.size (some ⟨g, 0, none⟩) N c3 (ms ++ [x])) (fun _ i _ => N - (intOf i).toNat)
        case atStart => exact ⟨0, 0, rfl, rfl, by omega, ⟨Or.inr ⟨rfl, rfl⟩, by omega⟩, B8.out, X8.out, M8.out, Z8.out, P8.out, V8.out, Q8.out, O8.out, G8.out⟩
        case round =>
          obtain ⟨k, zi, rfl, rfl, ghk, ghz, gB9, gX9, gM9, gZ9, gP9, gV9, gQ9, gO9, gG9⟩ := hrel
          have B9 := Lib.hid gB9
          have X9 := Lib.hid gX9
          have M9 := Lib.hid gM9
          have Z9 := Lib.hid gZ9
          have P9 := Lib.hid gP9
          have V9 := Lib.hid gV9
          have Q9 := Lib.hid gQ9
          have O9 := Lib.hid gO9
          have G9 := Lib.hid gG9
          have hk := Lib.hid ghk
          have hz := Lib.hid ghz
          clear gB9 gX9 gM9 gZ9 gP9 gV9 gQ9 gO9 gG9 ghk ghz
          have LUX9 := Lib.hid X9.out.lt
          have LUM9 := Lib.hid M9.out.lt
          have LUZ9 := Lib.hid Z9.out.lt
          have LUP9 := Lib.hid P9.out.lt
          have LUV9 := Lib.hid V9.out.lt
          have hk := hk.out
          have hzn := hz.out.2
          have cP0 : wr.cell? ⟨bp, 0, none⟩ = some (.slice (some ⟨g, 0, none⟩) N c3) := P9.out.cell 0
          by_cases hlt : k < N
          · have hlt2 : (k : Int) < N := by omega
            obtain ⟨b1, off1, y1, hA1, hy1, h11, h21, A1', n1', c1', hd1, c10, c11, c12, c13⟩ := at_ G9.out hlt
            obtain ⟨b2, off2, y2, hA2, hy2, h12, h22, A2', n2', c2', hd2, c20, c21, c22, c23⟩ := at_ G9.out hzn
            injection hA1 with hA1
            injection hA1 with hb1 ho1
            subst hb1 ho1
            injection hA2 with hA2
            injection hA2 with hb2 ho2
            subst hb2 ho2
            have HY1 := Lib.hid (getD_of hy1)
            have HY2 := Lib.hid (getD_of hy2)
            clear hy1 hy2 hd1 hd2
            have hzl2 : (zi : Int) < N := by omega
            go_upto_region 12 with fail
            clear cP0
            simp only [Nat.zero_add] at c10 c11 c12 c13 c20 c21 c22 c23
            have da0 : ∀ m : Af wr, m.w.cell? ⟨g, k * 4, none⟩ = some (.int .i64 y1.1) := fun m => by rw [m.below.cell (World.block_lt_of_cell? _ _ c10)]; exact c10
            have da1 : ∀ m : Af wr, m.w.cell? ⟨g, k * 4 + 1, none⟩ = some (.int .i64 y1.2.1) := fun m => by rw [m.below.cell (World.block_lt_of_cell? _ _ c11)]; exact c11
            have da2 : ∀ m : Af wr, m.w.cell? ⟨g, k * 4 + 2, none⟩ = some (.int .i64 y1.2.2.1) := fun m => by rw [m.below.cell (World.block_lt_of_cell? _ _ c12)]; exact c12
            have da3 : ∀ m : Af wr, m.w.cell? ⟨g, k * 4 + 3, none⟩ = some (.slice A1' n1' c1') := fun m => by rw [m.below.cell (World.block_lt_of_cell? _ _ c13)]; exact c13
            have db0 : ∀ m : Af wr, m.w.cell? ⟨g, zi * 4, none⟩ = some (.int .i64 y2.1) := fun m => by rw [m.below.cell (World.block_lt_of_cell? _ _ c20)]; exact c20
            have db1 : ∀ m : Af wr, m.w.cell? ⟨g, zi * 4 + 1, none⟩ = some (.int .i64 y2.2.1) := fun m => by rw [m.below.cell (World.block_lt_of_cell? _ _ c21)]; exact c21
            have db2 : ∀ m : Af wr, m.w.cell? ⟨g, zi * 4 + 2, none⟩ = some (.int .i64 y2.2.2.1) := fun m => by rw [m.below.cell (World.block_lt_of_cell? _ _ c22)]; exact c22
            have db3 : ∀ m : Af wr, m.w.cell? ⟨g, zi * 4 + 3, none⟩ = some (.slice A2' n2' c2') := fun m => by rw [m.below.cell (World.block_lt_of_cell? _ _ c23)]; exact c23
            clear c10 c11 c12 c13 c20 c21 c22 c23
            obtain ⟨v, hv⟩ : ∃ v, decide (y1.2.1 ≤ y2.2.1) = v := ⟨_, rfl⟩
            have HV := Lib.hid hv
            have q0 : ∀ m : Af wr, m.w.cell? ⟨bp, 0, none⟩ = some (.slice (some ⟨g, 0, none⟩) N c3) := fun m => (Af.cells P9.out m).cell 0
            refine region_after (by kernel_rfl) (by kernel_rfl) ?_
            repeat (go_big_quiet_step (fail))
            refine wpQuiet_nil ?_
            intro _ hw'
            obtain ⟨nq, hw''⟩ := hw'
            subst hw''
            clear q0 da0 da1 da2 da3 db0 db1 db2 db3
            obtain ⟨w10, hw5⟩ : ∃ w5, nq.w = w5 := ⟨_, rfl⟩
            have hb := nq.below
            rw [hw5] at hb
            (try rw [hw5])
            clear hw5
            have SS10 := Lib.hid hb.size
            have B10 := Lib.hid (B9.out.trans (hb.mono B9.out.size))
            have X10 := Lib.hid (X9.out.below hb)
            have M10 := Lib.hid (M9.out.below hb)
            have Z10 := Lib.hid (Z9.out.below hb)
            have P10 := Lib.hid (P9.out.below hb)
            have V10 := Lib.hid (V9.out.below hb)
            have Q10 := Lib.hid (Q9.out.below hb)
            have O10 := Lib.hid (O9.out.below hb)
            have G10 := Lib.hid (G9.out.below hb)
            clear hb nq B9 X9 M9 Z9 P9 V9 Q9 O9 G9
            cases v with
            | true =>
              have HB := Lib.hid (show bst le (ms ++ [x]) (k + 1) = (k : Int) by
                rcases hz.out.1 with h9 | ⟨h9, h8⟩
                · rw [bst, ← h9, if_neg (by omega), HY1.out, Int.toNat_natCast, HY2.out]; unfold le; rw [HV.out]; rfl
                · subst h9; rw [bst, if_pos (by unfold bst; omega)])
              go_wp2_with fail
              go_roundw
              case rel => exact ⟨k + 1, k, rfl, by go_num, by omega, ⟨Or.inl HB.out.symm, hlt⟩, B10.out, X10.out, M10.out, Z10.out, P10.out, V10.out, Q10.out, O10.out, G10.out⟩
              case measure => simp [intOf]; omega
            | false =>
              have HB := Lib.hid (show bst le (ms ++ [x]) (k + 1) = (zi : Int) by
                rcases hz.out.1 with h9 | ⟨h9, h8⟩
                · rw [bst, ← h9, if_neg (by omega), HY1.out, Int.toNat_natCast, HY2.out]; unfold le; rw [HV.out]; rfl
                · subst h9 h8; have e : y1 = y2 := HY1.out.symm.trans HY2.out
                  rw [e] at HV; have h7 := of_decide_eq_false HV.out; omega)
              go_wp2_with fail
              go_roundw
              case rel => exact ⟨k + 1, zi, rfl, by go_num, by omega, ⟨Or.inl HB.out.symm, hz.out.2⟩, B10.out, X10.out, M10.out, Z10.out, P10.out, V10.out, Q10.out, O10.out, G10.out⟩
              case measure => simp [intOf]; omega
          · have hlt2 : ¬ (k : Int) < N := by omega
            obtain rfl : N = k := by omega
            have HZZ := Lib.hid (show bst le (ms ++ [x]) N = (zi : Int) by rcases hz.out.1 with h9 | ⟨h9, _⟩; exact h9.symm; omega)
            have HEE := Lib.hid (HE.out zi HZZ.out)
            go_upto_region 14 with fail
            clear cP0
            have LSX := Lib.hid X9.out.lt
            have LSM := Lib.hid M9.out.lt
            have LSZ := Lib.hid Z9.out.lt
            have LSP := Lib.hid P9.out.lt
            have LSV := Lib.hid V9.out.lt
            have LSB := Lib.hid B9.out.size
            have LSQ := Lib.hid Q9.out.hi_
            have LSO := Lib.hid O9.out.hi_
            have LSG := Lib.hid (O9.out.lo_ (q := g) rfl)
            obtain ⟨BB, hBB⟩ : ∃ BB, wr.heap.size = BB := ⟨_, rfl⟩
            rw [hBB] at LSX
            rw [hBB] at LSM
            rw [hBB] at LSZ
            rw [hBB] at LSP
            rw [hBB] at LSV
            rw [hBB] at LSQ
            rw [hBB] at LSO
            rw [hBB] at LSB
            obtain ⟨jz, hjz⟩ : ∃ jz, zi + 1 = jz := ⟨_, rfl⟩
            have HJZ := Lib.hid hjz
            have HWB := Lib.hid hBB
            obtain ⟨ad, had, hs2⟩ := sliceS_post (P := Try.prog) 24 28 i0 4 Try.underlying24 HZ.out.1 HZ.out.2.2.1 g N c3 jz (by omega) O9.out.rq.cap_.1
            have hs1 := fun W => sliceS_pre (P := Try.prog) 24 28 i0 4 Try.underlying24 HZ.out.1 HZ.out.2.2.1 g N c3 zi (by have := O9.out.rq.cap_.1; omega) W
            have HAD := Lib.hid had
            have HS1 := Lib.hid hs1
            have HS2 := Lib.hid hs2
            clear hs1 hs2 had hjz hBB
            refine rgf.region_tail reg.Bel [reg.Bel, reg.Bel, reg.Bel, reg.Bel, reg.Bel, reg.Bel, reg.Bel, reg.Bel, reg.Bel, reg.Bel, reg.Bel, rgf.Kp msg BB zi, reg.Bel]
              (fun j => match j with | 0 => ⟨rgf.rowE msg w0.heap.size BB, rgf.rowE_below, fun h => absurd rfl h, fun _ => rgf.rowE_below, fun _ => rgf.rowE_below, fun _ => rgf.rowE_below, fun _ => rgf.rowE_below, fun _ => rgf.rowE_below, fun _ => rgf.rowE_below, fun _ => rgf.rowE_below, fun _ => rgf.rowE_below, fun _ => rgf.rowE_below, fun _ => rgf.rowE_below, fun _ => rgf.rowE_kp, fun _ => rgf.rowE_below, trivial⟩ | 1 => rgf.pureS (.pointer (some ⟨bp, 0, none⟩)) | 2 => rgf.pureS (.slice (some ⟨g, 0, none⟩) N c3) | 3 => rgf.pureS (.int .i64 ((zi : Int))) | 4 => rgf.pureS (.slice (some ⟨g, 0, none⟩) zi c3) | 5 => ⟨rgf.rowB msg w0.heap.size BB zi ((es ++ [f3]).take zi), rgf.rowB_below, fun _ => rgf.rowB_below, fun _ => rgf.rowB_below, fun _ => rgf.rowB_below, fun _ => rgf.rowB_below, fun _ => rgf.rowB_below, fun h => absurd rfl h, fun _ => rgf.rowB_below, fun _ => rgf.rowB_below, fun _ => rgf.rowB_below, fun _ => rgf.rowB_below, fun _ => rgf.rowB_below, fun _ => rgf.rowB_kp (Nat.le_refl _), fun _ => rgf.rowB_below, trivial⟩ | 6 => rgf.pureS (.pointer (some ⟨bp, 0, none⟩)) | 7 => rgf.pureS (.slice (some ⟨g, 0, none⟩) N c3) | 8 => rgf.pureS (.int .i64 ((zi : Int))) | 9 => rgf.pureS (.int .i64 ((jz : Int))) | 10 => rgf.pureS (.slice (some ad) (N - jz) (c3 - jz)) | 11 => ⟨rgf.rowB msg w0.heap.size BB (N - 1) ((es ++ [f3]).eraseIdx zi), rgf.rowB_below, fun _ => rgf.rowB_below, fun _ => rgf.rowB_below, fun _ => rgf.rowB_below, fun _ => rgf.rowB_below, fun _ => rgf.rowB_below, fun _ => rgf.rowB_below, fun _ => rgf.rowB_below, fun _ => rgf.rowB_below, fun _ => rgf.rowB_below, fun _ => rgf.rowB_below, fun _ => rgf.rowB_below, fun h => absurd rfl h, fun _ => rgf.rowB_below, trivial⟩ | 12 => rgf.pureS (.pointer (some ⟨bp, 0, none⟩)) | _ => rgf.freeS)
              13 72 [some [], some [], some [(1, 55)], some [], some [(2, 56), (3, 57)], some [(0, 54), (4, 58)], some [], some [(6, 60)], some [], some [(8, 62)], some [(7, 61), (9, 63)], some [(5, 59), (10, 64)], some [], none] [(0, 54), (1, 55), (2, 56), (3, 57), (4, 58), (5, 59), (6, 60), (7, 61), (8, 62), (9, 63), (10, 64), (11, 65), (12, 66)]
              (fun w' => BB ≤ w'.heap.size ∧ (fun w' => Below w.heap.size w w' ∧ Bx 26 w' (w.heap.size) #[.slice A n cap, .int .i64 d] ∧ Bx 28 w' (w.heap.size + 1) #[.int .i64 x.1, .int .i64 x.2.1, .int .i64 x.2.2.1, .slice Am nm cm] ∧ Bx 26 w' (w.heap.size + 1 + 1) #[.slice none 0 0, .int .i64 0] ∧ Bx 26 w' (bp) #[.slice (some ⟨g, 0, none⟩) N c3, .int .i64 d] ∧ Bx 28 w' (bv) #[.int .i64 x.1, .int .i64 x.2.1, .int .i64 x.2.2.1, .slice A2 n2 c2] ∧ Rq msg w' lo hi A n cap ms ∧ Oe msg w' w0.heap.size w7.heap.size (some ⟨g, 0, none⟩) N c3 (es ++ [f3]) ∧ True) w')
              (by kernel_rfl) rfl (by kernel_rfl) (by kernel_rfl) rfl
              (fun w1 w2 hc hb => ⟨Nat.le_trans hc.1 hb.size, (fun w1 w2 hc hb => ⟨hc.1.trans (hb.mono hc.1.size), hc.2.1.below hb, hc.2.2.1.below hb, hc.2.2.2.1.below hb, hc.2.2.2.2.1.below hb, hc.2.2.2.2.2.1.below hb, hc.2.2.2.2.2.2.1.below hb, hc.2.2.2.2.2.2.2.1.below hb, trivial⟩) w1 w2 hc.2 hb⟩)
              ⟨(fun w1 w2 hc hb => ⟨Nat.le_trans hc.1 hb.size, (fun w1 w2 hc hb => ⟨hc.1.trans (hb.mono hc.1.size), hc.2.1.below hb, hc.2.2.1.below hb, hc.2.2.2.1.below hb, hc.2.2.2.2.1.below hb, hc.2.2.2.2.2.1.below hb, hc.2.2.2.2.2.2.1.below hb, hc.2.2.2.2.2.2.2.1.below hb, trivial⟩) w1 w2 hc.2 hb⟩), (fun w1 w2 hc hb => ⟨Nat.le_trans hc.1 hb.size, (fun w1 w2 hc hb => ⟨hc.1.trans (hb.mono hc.1.size), hc.2.1.below hb, hc.2.2.1.below hb, hc.2.2.2.1.below hb, hc.2.2.2.2.1.below hb, hc.2.2.2.2.2.1.below hb, hc.2.2.2.2.2.2.1.below hb, hc.2.2.2.2.2.2.2.1.below hb, trivial⟩) w1 w2 hc.2 hb⟩), (fun w1 w2 hc hb => ⟨Nat.le_trans hc.1 hb.size, (fun w1 w2 hc hb => ⟨hc.1.trans (hb.mono hc.1.size), hc.2.1.below hb, hc.2.2.1.below hb, hc.2.2.2.1.below hb, hc.2.2.2.2.1.below hb, hc.2.2.2.2.2.1.below hb, hc.2.2.2.2.2.2.1.below hb, hc.2.2.2.2.2.2.2.1.below hb, trivial⟩) w1 w2 hc.2 hb⟩), (fun w1 w2 hc hb => ⟨Nat.le_trans hc.1 hb.size, (fun w1 w2 hc hb => ⟨hc.1.trans (hb.mono hc.1.size), hc.2.1.below hb, hc.2.2.1.below hb, hc.2.2.2.1.below hb, hc.2.2.2.2.1.below hb, hc.2.2.2.2.2.1.below hb, hc.2.2.2.2.2.2.1.below hb, hc.2.2.2.2.2.2.2.1.below hb, trivial⟩) w1 w2 hc.2 hb⟩), (fun w1 w2 hc hb => ⟨Nat.le_trans hc.1 hb.size, (fun w1 w2 hc hb => ⟨hc.1.trans (hb.mono hc.1.size), hc.2.1.below hb, hc.2.2.1.below hb, hc.2.2.2.1.below hb, hc.2.2.2.2.1.below hb, hc.2.2.2.2.2.1.below hb, hc.2.2.2.2.2.2.1.below hb, hc.2.2.2.2.2.2.2.1.below hb, trivial⟩) w1 w2 hc.2 hb⟩), (fun w1 w2 hc hb => ⟨Nat.le_trans hc.1 hb.size, (fun w1 w2 hc hb => ⟨hc.1.trans (hb.mono hc.1.size), hc.2.1.below hb, hc.2.2.1.below hb, hc.2.2.2.1.below hb, hc.2.2.2.2.1.below hb, hc.2.2.2.2.2.1.below hb, hc.2.2.2.2.2.2.1.below hb, hc.2.2.2.2.2.2.2.1.below hb, trivial⟩) w1 w2 hc.2 hb⟩), (fun w1 w2 hc hb => ⟨Nat.le_trans hc.1 hb.size, (fun w1 w2 hc hb => ⟨hc.1.trans (hb.mono hc.1.size), hc.2.1.below hb, hc.2.2.1.below hb, hc.2.2.2.1.below hb, hc.2.2.2.2.1.below hb, hc.2.2.2.2.2.1.below hb, hc.2.2.2.2.2.2.1.below hb, hc.2.2.2.2.2.2.2.1.below hb, trivial⟩) w1 w2 hc.2 hb⟩), (fun w1 w2 hc hb => ⟨Nat.le_trans hc.1 hb.size, (fun w1 w2 hc hb => ⟨hc.1.trans (hb.mono hc.1.size), hc.2.1.below hb, hc.2.2.1.below hb, hc.2.2.2.1.below hb, hc.2.2.2.2.1.below hb, hc.2.2.2.2.2.1.below hb, hc.2.2.2.2.2.2.1.below hb, hc.2.2.2.2.2.2.2.1.below hb, trivial⟩) w1 w2 hc.2 hb⟩), (fun w1 w2 hc hb => ⟨Nat.le_trans hc.1 hb.size, (fun w1 w2 hc hb => ⟨hc.1.trans (hb.mono hc.1.size), hc.2.1.below hb, hc.2.2.1.below hb, hc.2.2.2.1.below hb, hc.2.2.2.2.1.below hb, hc.2.2.2.2.2.1.below hb, hc.2.2.2.2.2.2.1.below hb, hc.2.2.2.2.2.2.2.1.below hb, trivial⟩) w1 w2 hc.2 hb⟩), (fun w1 w2 hc hb => ⟨Nat.le_trans hc.1 hb.size, (fun w1 w2 hc hb => ⟨hc.1.trans (hb.mono hc.1.size), hc.2.1.below hb, hc.2.2.1.below hb, hc.2.2.2.1.below hb, hc.2.2.2.2.1.below hb, hc.2.2.2.2.2.1.below hb, hc.2.2.2.2.2.2.1.below hb, hc.2.2.2.2.2.2.2.1.below hb, trivial⟩) w1 w2 hc.2 hb⟩), (fun w1 w2 hc hb => ⟨Nat.le_trans hc.1 hb.size, (fun w1 w2 hc hb => ⟨hc.1.trans (hb.mono hc.1.size), hc.2.1.below hb, hc.2.2.1.below hb, hc.2.2.2.1.below hb, hc.2.2.2.2.1.below hb, hc.2.2.2.2.2.1.below hb, hc.2.2.2.2.2.2.1.below hb, hc.2.2.2.2.2.2.2.1.below hb, trivial⟩) w1 w2 hc.2 hb⟩), (fun w1 w2 hcc hb => ⟨Nat.le_trans hcc.1 hb.1.size, (fun hc => ⟨hc.1.trans (hb.1.mono (by have hlP := LP.out; have hlV := LV.out; have hs0 := LTX.out; have hs1 := LTM.out; have hs2 := LTZ.out; have hs3 := SS1.out; have hs4 := SS2.out; have hs5 := LWP.out; have hs6 := SS3.out; have hs7 := SS4.out; have hs8 := SS5.out; have hs9 := SS6.out; have hs10 := LWV.out; have hs11 := SS7.out; have hs12 := LUX9.out; have hs13 := LUM9.out; have hs14 := LUZ9.out; have hs15 := LUP9.out; have hs16 := LUV9.out; have hk0 := LSX.out; have hk1 := LSM.out; have hk2 := LSZ.out; have hk3 := LSP.out; have hk4 := LSV.out; have hk5 := LSB.out; have hk6 := LSQ.out; have hk7 := LSO.out; have hk8 := LSG.out; omega)), hc.2.1.up hb.1 (by have hlP := LP.out; have hlV := LV.out; have hs0 := LTX.out; have hs1 := LTM.out; have hs2 := LTZ.out; have hs3 := SS1.out; have hs4 := SS2.out; have hs5 := LWP.out; have hs6 := SS3.out; have hs7 := SS4.out; have hs8 := SS5.out; have hs9 := SS6.out; have hs10 := LWV.out; have hs11 := SS7.out; have hs12 := LUX9.out; have hs13 := LUM9.out; have hs14 := LUZ9.out; have hs15 := LUP9.out; have hs16 := LUV9.out; have hk0 := LSX.out; have hk1 := LSM.out; have hk2 := LSZ.out; have hk3 := LSP.out; have hk4 := LSV.out; have hk5 := LSB.out; have hk6 := LSQ.out; have hk7 := LSO.out; have hk8 := LSG.out; omega), hc.2.2.1.up hb.1 (by have hlP := LP.out; have hlV := LV.out; have hs0 := LTX.out; have hs1 := LTM.out; have hs2 := LTZ.out; have hs3 := SS1.out; have hs4 := SS2.out; have hs5 := LWP.out; have hs6 := SS3.out; have hs7 := SS4.out; have hs8 := SS5.out; have hs9 := SS6.out; have hs10 := LWV.out; have hs11 := SS7.out; have hs12 := LUX9.out; have hs13 := LUM9.out; have hs14 := LUZ9.out; have hs15 := LUP9.out; have hs16 := LUV9.out; have hk0 := LSX.out; have hk1 := LSM.out; have hk2 := LSZ.out; have hk3 := LSP.out; have hk4 := LSV.out; have hk5 := LSB.out; have hk6 := LSQ.out; have hk7 := LSO.out; have hk8 := LSG.out; omega), hc.2.2.2.1.up hb.1 (by have hlP := LP.out; have hlV := LV.out; have hs0 := LTX.out; have hs1 := LTM.out; have hs2 := LTZ.out; have hs3 := SS1.out; have hs4 := SS2.out; have hs5 := LWP.out; have hs6 := SS3.out; have hs7 := SS4.out; have hs8 := SS5.out; have hs9 := SS6.out; have hs10 := LWV.out; have hs11 := SS7.out; have hs12 := LUX9.out; have hs13 := LUM9.out; have hs14 := LUZ9.out; have hs15 := LUP9.out; have hs16 := LUV9.out; have hk0 := LSX.out; have hk1 := LSM.out; have hk2 := LSZ.out; have hk3 := LSP.out; have hk4 := LSV.out; have hk5 := LSB.out; have hk6 := LSQ.out; have hk7 := LSO.out; have hk8 := LSG.out; omega), hc.2.2.2.2.1.up hb.1 (by have hlP := LP.out; have hlV := LV.out; have hs0 := LTX.out; have hs1 := LTM.out; have hs2 := LTZ.out; have hs3 := SS1.out; have hs4 := SS2.out; have hs5 := LWP.out; have hs6 := SS3.out; have hs7 := SS4.out; have hs8 := SS5.out; have hs9 := SS6.out; have hs10 := LWV.out; have hs11 := SS7.out; have hs12 := LUX9.out; have hs13 := LUM9.out; have hs14 := LUZ9.out; have hs15 := LUP9.out; have hs16 := LUV9.out; have hk0 := LSX.out; have hk1 := LSM.out; have hk2 := LSZ.out; have hk3 := LSP.out; have hk4 := LSV.out; have hk5 := LSB.out; have hk6 := LSQ.out; have hk7 := LSO.out; have hk8 := LSG.out; omega), hc.2.2.2.2.2.1.up hb.1 (by have hlP := LP.out; have hlV := LV.out; have hs0 := LTX.out; have hs1 := LTM.out; have hs2 := LTZ.out; have hs3 := SS1.out; have hs4 := SS2.out; have hs5 := LWP.out; have hs6 := SS3.out; have hs7 := SS4.out; have hs8 := SS5.out; have hs9 := SS6.out; have hs10 := LWV.out; have hs11 := SS7.out; have hs12 := LUX9.out; have hs13 := LUM9.out; have hs14 := LUZ9.out; have hs15 := LUP9.out; have hs16 := LUV9.out; have hk0 := LSX.out; have hk1 := LSM.out; have hk2 := LSZ.out; have hk3 := LSP.out; have hk4 := LSV.out; have hk5 := LSB.out; have hk6 := LSQ.out; have hk7 := LSO.out; have hk8 := LSG.out; omega), hc.2.2.2.2.2.2.1.same hb.1.size (fun b _ h => hb.1.block b (by have hlP := LP.out; have hlV := LV.out; have hs0 := LTX.out; have hs1 := LTM.out; have hs2 := LTZ.out; have hs3 := SS1.out; have hs4 := SS2.out; have hs5 := LWP.out; have hs6 := SS3.out; have hs7 := SS4.out; have hs8 := SS5.out; have hs9 := SS6.out; have hs10 := LWV.out; have hs11 := SS7.out; have hs12 := LUX9.out; have hs13 := LUM9.out; have hs14 := LUZ9.out; have hs15 := LUP9.out; have hs16 := LUV9.out; have hk0 := LSX.out; have hk1 := LSM.out; have hk2 := LSZ.out; have hk3 := LSP.out; have hk4 := LSV.out; have hk5 := LSB.out; have hk6 := LSQ.out; have hk7 := LSO.out; have hk8 := LSG.out; omega)), hc.2.2.2.2.2.2.2.1.same hb.1.size (fun b _ h => hb.1.block b (by have hlP := LP.out; have hlV := LV.out; have hs0 := LTX.out; have hs1 := LTM.out; have hs2 := LTZ.out; have hs3 := SS1.out; have hs4 := SS2.out; have hs5 := LWP.out; have hs6 := SS3.out; have hs7 := SS4.out; have hs8 := SS5.out; have hs9 := SS6.out; have hs10 := LWV.out; have hs11 := SS7.out; have hs12 := LUX9.out; have hs13 := LUM9.out; have hs14 := LUZ9.out; have hs15 := LUP9.out; have hs16 := LUV9.out; have hk0 := LSX.out; have hk1 := LSM.out; have hk2 := LSZ.out; have hk3 := LSP.out; have hk4 := LSV.out; have hk5 := LSB.out; have hk6 := LSQ.out; have hk7 := LSO.out; have hk8 := LSG.out; omega)), trivial⟩) hcc.2⟩), (fun w1 w2 hc hb => ⟨Nat.le_trans hc.1 hb.size, (fun w1 w2 hc hb => ⟨hc.1.trans (hb.mono hc.1.size), hc.2.1.below hb, hc.2.2.1.below hb, hc.2.2.2.1.below hb, hc.2.2.2.2.1.below hb, hc.2.2.2.2.2.1.below hb, hc.2.2.2.2.2.2.1.below hb, hc.2.2.2.2.2.2.2.1.below hb, trivial⟩) w1 w2 hc.2 hb⟩), trivial⟩
              (⟨by have h9 := HWB.out; show BB ≤ wr.heap.size; omega, ⟨own.below_drew B9.out, X9.out.same rfl, M9.out.same rfl, Z9.out.same rfl, P9.out.same rfl, V9.out.same rfl, Q9.out.same (Nat.le_refl _) (fun _ _ _ => rfl), O9.out.same (Nat.le_refl _) (fun _ _ _ => rfl), trivial⟩⟩) (by kernel_rfl) ⟨?_, ?_, ?_, ?_, ?_, ?_, ?_, ?_, ?_, ?_, ?_, ?_, ?_, trivial⟩ ?_
            · refine fun w8 hcc  K hK => ?_
              obtain ⟨hBw, hc⟩ := hcc
              (try simp only [Act.put, List.setIfInBounds_toArray, List.set_cons_zero, List.set_cons_succ])
              go_simp
              exact hK (.slice (some ⟨w8.heap.size, 0, none⟩) 0 0) _ ⟨w8.heap.size, _, rfl, (Oe.empty msg w8).down (by have hlP := LP.out; have hlV := LV.out; have hs0 := LTX.out; have hs1 := LTM.out; have hs2 := LTZ.out; have hs3 := SS1.out; have hs4 := SS2.out; have hs5 := LWP.out; have hs6 := SS3.out; have hs7 := SS4.out; have hs8 := SS5.out; have hs9 := SS6.out; have hs10 := LWV.out; have hs11 := SS7.out; have hs12 := LUX9.out; have hs13 := LUM9.out; have hs14 := LUZ9.out; have hs15 := LUP9.out; have hs16 := LUV9.out; have hk0 := LSX.out; have hk1 := LSM.out; have hk2 := LSZ.out; have hk3 := LSP.out; have hk4 := LSV.out; have hk5 := LSB.out; have hk6 := LSQ.out; have hk7 := LSO.out; have hk8 := LSG.out; have h7 := hc.2.2.2.2.2.2.2.1.hi_; omega), hBw⟩ (below_box _ _)
            · refine fun w8 hcc  K hK => ?_
              obtain ⟨hBw, hc⟩ := hcc
              (try simp only [Act.put, List.setIfInBounds_toArray, List.set_cons_zero, List.set_cons_succ])
              go_simp
              exact hK (.pointer (some ⟨bp, 0, none⟩)) _ rfl (Below.refl _ _)
            · refine fun w8 hcc v1 h1 K hK => ?_
              obtain ⟨hBw, hc⟩ := hcc
              obtain rfl : v1 = .pointer (some ⟨bp, 0, none⟩) := h1
              (try simp only [Act.put, List.setIfInBounds_toArray, List.set_cons_zero, List.set_cons_succ])
              have c0 : w8.cell? ⟨bp, 0, none⟩ = some (.slice (some ⟨g, 0, none⟩) N c3) := hc.2.2.2.2.1.cell 0
              go_simp
              exact hK (.slice (some ⟨g, 0, none⟩) N c3) _ rfl (Below.refl _ _)
            · refine fun w8 hcc  K hK => ?_
              obtain ⟨hBw, hc⟩ := hcc
              (try simp only [Act.put, List.setIfInBounds_toArray, List.set_cons_zero, List.set_cons_succ])
              go_simp
              exact hK (.int .i64 ((zi : Int))) _ rfl (Below.refl _ _)
            · refine fun w8 hcc v2 h2 v3 h3 K hK => ?_
              obtain ⟨hBw, hc⟩ := hcc
              obtain rfl : v2 = .slice (some ⟨g, 0, none⟩) N c3 := h2
              obtain rfl : v3 = .int .i64 ((zi : Int)) := h3
              (try simp only [Act.put, List.setIfInBounds_toArray, List.set_cons_zero, List.set_cons_succ])
              rw [if_pos (by rfl)]
              refine wp_slice_h 24 _ _ rfl (.slice (some ⟨g, 0, none⟩) N c3) (.int .i64 ((zi : Int))) _ rfl rfl (fun W => by rw [at_slice _ _ Try.underlying24]; exact HS1.out W) ?_
              exact hK _ _ rfl (Below.refl _ _)
            · refine fun w8 hcc v0 h0 v4 h4 K hK => ?_
              obtain ⟨hBw, hc⟩ := hcc
              obtain ⟨q0, hi0_, rfl, hE0, hBq⟩ := h0
              obtain rfl : v4 = .slice (some ⟨g, 0, none⟩) zi c3 := h4
              (try simp only [Act.put, List.setIfInBounds_toArray, List.set_cons_zero, List.set_cons_succ])
              rw [if_pos (by rfl)]
              refine rgf.wp_first _ _ 24 rfl Try.underlying24 HZ.out.1 HZ.out.2.1 HZ.out.2.2.1 (by rw [HZ.out.2.2.2]; omega) rfl rfl rfl hE0 hBq hBw hc.2.2.2.2.2.2.2.1 (by omega) (by have h6 := HN.out; omega) (by have hlP := LP.out; have hlV := LV.out; have hs0 := LTX.out; have hs1 := LTM.out; have hs2 := LTZ.out; have hs3 := SS1.out; have hs4 := SS2.out; have hs5 := LWP.out; have hs6 := SS3.out; have hs7 := SS4.out; have hs8 := SS5.out; have hs9 := SS6.out; have hs10 := LWV.out; have hs11 := SS7.out; have hs12 := LUX9.out; have hs13 := LUM9.out; have hs14 := LUZ9.out; have hs15 := LUP9.out; have hs16 := LUV9.out; have hk0 := LSX.out; have hk1 := LSM.out; have hk2 := LSZ.out; have hk3 := LSP.out; have hk4 := LSV.out; have hk5 := LSB.out; have hk6 := LSQ.out; have hk7 := LSO.out; have hk8 := LSG.out; have h7 := hc.2.2.2.2.2.2.2.1.hi_; omega) ?_
              intro v4 w4 hv4 hb4
              exact hK _ _ hv4 hb4
            · refine fun w8 hcc  K hK => ?_
              obtain ⟨hBw, hc⟩ := hcc
              (try simp only [Act.put, List.setIfInBounds_toArray, List.set_cons_zero, List.set_cons_succ])
              go_simp
              exact hK (.pointer (some ⟨bp, 0, none⟩)) _ rfl (Below.refl _ _)
            · refine fun w8 hcc v6 h6 K hK => ?_
              obtain ⟨hBw, hc⟩ := hcc
              obtain rfl : v6 = .pointer (some ⟨bp, 0, none⟩) := h6
              (try simp only [Act.put, List.setIfInBounds_toArray, List.set_cons_zero, List.set_cons_succ])
              have c0 : w8.cell? ⟨bp, 0, none⟩ = some (.slice (some ⟨g, 0, none⟩) N c3) := hc.2.2.2.2.1.cell 0
              go_simp
              exact hK (.slice (some ⟨g, 0, none⟩) N c3) _ rfl (Below.refl _ _)
            · refine fun w8 hcc  K hK => ?_
              obtain ⟨hBw, hc⟩ := hcc
              (try simp only [Act.put, List.setIfInBounds_toArray, List.set_cons_zero, List.set_cons_succ])
              go_simp
              exact hK (.int .i64 ((zi : Int))) _ rfl (Below.refl _ _)
            · refine fun w8 hcc v8 h8 K hK => ?_
              obtain ⟨hBw, hc⟩ := hcc
              obtain rfl : v8 = .int .i64 ((zi : Int)) := h8
              (try simp only [Act.put, List.setIfInBounds_toArray, List.set_cons_zero, List.set_cons_succ])
              have m0 : (zi : Int) + 1 = (jz : Int) := by have h9 := HJZ.out; omega
              have m1 : IntKind.i64.wrap (jz : Int) = (jz : Int) := IntWalk.i64_in _ (by omega)
              go_simp
              exact hK (.int .i64 ((jz : Int))) _ rfl (Below.refl _ _)
            · refine fun w8 hcc v7 h7 v9 h9 K hK => ?_
              obtain ⟨hBw, hc⟩ := hcc
              obtain rfl : v7 = .slice (some ⟨g, 0, none⟩) N c3 := h7
              obtain rfl : v9 = .int .i64 ((jz : Int)) := h9
              (try simp only [Act.put, List.setIfInBounds_toArray, List.set_cons_zero, List.set_cons_succ])
              rw [if_pos (by rfl)]
              refine wp_slice_l 24 _ _ rfl (.slice (some ⟨g, 0, none⟩) N c3) (.int .i64 ((jz : Int))) _ rfl rfl (fun W => by rw [at_slice _ _ Try.underlying24]; exact HS2.out W) ?_
              exact hK _ _ rfl (Below.refl _ _)
            · refine fun w8 hcc v5 h5 v10 h10 K hK => ?_
              obtain ⟨hBw, hc⟩ := hcc
              obtain ⟨A5, c5, hi5, rfl, hO5, hB5⟩ := h5
              obtain rfl : v10 = .slice (some ad) (N - jz) (c3 - jz) := h10
              (try simp only [Act.put, List.setIfInBounds_toArray, List.set_cons_zero, List.set_cons_succ])
              rw [if_pos (by rfl)]
              refine rgf.wp_second _ _ 24 rfl Try.underlying24 HZ.out.1 HZ.out.2.1 HZ.out.2.2.1 (by rw [HZ.out.2.2.2]; omega) rfl rfl rfl hO5 hB5 hBw hc.2.2.2.2.2.2.2.1 (by omega) (by have h9 := HJZ.out; omega) (fun hh9 => by rw [HAD.out (by have h9 := HJZ.out; omega), ← HJZ.out]; rfl) (by have h6 := HN.out; omega) (by have hlP := LP.out; have hlV := LV.out; have hs0 := LTX.out; have hs1 := LTM.out; have hs2 := LTZ.out; have hs3 := SS1.out; have hs4 := SS2.out; have hs5 := LWP.out; have hs6 := SS3.out; have hs7 := SS4.out; have hs8 := SS5.out; have hs9 := SS6.out; have hs10 := LWV.out; have hs11 := SS7.out; have hs12 := LUX9.out; have hs13 := LUM9.out; have hs14 := LUZ9.out; have hs15 := LUP9.out; have hs16 := LUV9.out; have hk0 := LSX.out; have hk1 := LSM.out; have hk2 := LSZ.out; have hk3 := LSP.out; have hk4 := LSV.out; have hk5 := LSB.out; have hk6 := LSQ.out; have hk7 := LSO.out; have hk8 := LSG.out; have h7 := hc.2.2.2.2.2.2.2.1.hi_; omega) ?_
              intro v4 w4 hv4 hb4
              exact hK _ _ hv4 hb4
            · refine fun w8 hcc  K hK => ?_
              obtain ⟨hBw, hc⟩ := hcc
              (try simp only [Act.put, List.setIfInBounds_toArray, List.set_cons_zero, List.set_cons_succ])
              go_simp
              exact hK (.pointer (some ⟨bp, 0, none⟩)) _ rfl (Below.refl _ _)
            refine fun w9 hcc v0 h0 v1 h1 v2 h2 v3 h3 v4 h4 v5 h5 v6 h6 v7 h7 v8 h8 v9 h9 v10 h10 v11 h11 v12 h12 => ?_
            obtain ⟨hBw, hc⟩ := hcc
            obtain ⟨q0, hi0_, rfl, hE0, hBq⟩ := h0
            obtain rfl : v1 = .pointer (some ⟨bp, 0, none⟩) := h1
            obtain rfl : v2 = .slice (some ⟨g, 0, none⟩) N c3 := h2
            obtain rfl : v3 = .int .i64 ((zi : Int)) := h3
            obtain rfl : v4 = .slice (some ⟨g, 0, none⟩) zi c3 := h4
            obtain ⟨A5, c5, hi5, rfl, hO5, hB5⟩ := h5
            obtain rfl : v6 = .pointer (some ⟨bp, 0, none⟩) := h6
            obtain rfl : v7 = .slice (some ⟨g, 0, none⟩) N c3 := h7
            obtain rfl : v8 = .int .i64 ((zi : Int)) := h8
            obtain rfl : v9 = .int .i64 ((jz : Int)) := h9
            obtain rfl : v10 = .slice (some ad) (N - jz) (c3 - jz) := h10
            obtain ⟨A7, c7, hi7, rfl, hO3, hB3⟩ := h11
            obtain rfl : v12 = .pointer (some ⟨bp, 0, none⟩) := h12
            (try simp only [reg.Obs])
            (try simp only [Act.put, List.setIfInBounds_toArray, List.set_cons_zero, List.set_cons_succ])
            simp only [List.drop_succ_cons, List.drop_zero]
            have B10 := Lib.hid hc.1
            have X10 := Lib.hid hc.2.1
            have M10 := Lib.hid hc.2.2.1
            have Z10 := Lib.hid hc.2.2.2.1
            have P10 := Lib.hid hc.2.2.2.2.1
            have V10 := Lib.hid hc.2.2.2.2.2.1
            have Q10 := Lib.hid hc.2.2.2.2.2.2.1
            have O10 := Lib.hid hO3.up
            clear hE0 hO5 hO3 hc B9 X9 M9 Z9 P9 V9 Q9 O9
            have cP0 : w9.cell? ⟨bp, 0, none⟩ = some (.slice (some ⟨g, 0, none⟩) N c3) := P10.out.cell 0
            have fP0 : w9.frozen? ⟨bp, 0, none⟩ = false := P10.out.free 0
            go_upto_region 15 with fail
            clear cP0 fP0
            have hWW : (w9.setCell ⟨bp, 0, none⟩ (.slice A7 (N - 1) c7)) = (w9.setCell ⟨bp, 0, none⟩ (.slice A7 (N - 1) c7)) := rfl
            obtain ⟨w11, hW⟩ : ∃ wy, (w9.setCell ⟨bp, 0, none⟩ (.slice A7 (N - 1) c7)) = wy := ⟨_, rfl⟩
            rw [hW]
            clear hWW
            have B11 := Lib.hid (show Below w.heap.size w w11 by rw [← hW]; exact (B10.out.setCell (p := ⟨bp, 0, none⟩) (by have hlP := LP.out; have hlV := LV.out; have hs0 := LTX.out; have hs1 := LTM.out; have hs2 := LTZ.out; have hs3 := SS1.out; have hs4 := SS2.out; have hs5 := LWP.out; have hs6 := SS3.out; have hs7 := SS4.out; have hs8 := SS5.out; have hs9 := SS6.out; have hs10 := LWV.out; have hs11 := SS7.out; have hs12 := LUX9.out; have hs13 := LUM9.out; have hs14 := LUZ9.out; have hs15 := LUP9.out; have hs16 := LUV9.out; first | omega | (simp <;> omega)) _))
            have X11 := Lib.hid (show Bx 26 w11 (w.heap.size) #[.slice A n cap, .int .i64 d] by rw [← hW]; exact (X10.out.other (by have hlP := LP.out; have hlV := LV.out; have hs0 := LTX.out; have hs1 := LTM.out; have hs2 := LTZ.out; have hs3 := SS1.out; have hs4 := SS2.out; have hs5 := LWP.out; have hs6 := SS3.out; have hs7 := SS4.out; have hs8 := SS5.out; have hs9 := SS6.out; have hs10 := LWV.out; have hs11 := SS7.out; have hs12 := LUX9.out; have hs13 := LUM9.out; have hs14 := LUZ9.out; have hs15 := LUP9.out; have hs16 := LUV9.out; first | omega | (simp <;> omega)) _ _))
            have M11 := Lib.hid (show Bx 28 w11 (w.heap.size + 1) #[.int .i64 x.1, .int .i64 x.2.1, .int .i64 x.2.2.1, .slice Am nm cm] by rw [← hW]; exact (M10.out.other (by have hlP := LP.out; have hlV := LV.out; have hs0 := LTX.out; have hs1 := LTM.out; have hs2 := LTZ.out; have hs3 := SS1.out; have hs4 := SS2.out; have hs5 := LWP.out; have hs6 := SS3.out; have hs7 := SS4.out; have hs8 := SS5.out; have hs9 := SS6.out; have hs10 := LWV.out; have hs11 := SS7.out; have hs12 := LUX9.out; have hs13 := LUM9.out; have hs14 := LUZ9.out; have hs15 := LUP9.out; have hs16 := LUV9.out; first | omega | (simp <;> omega)) _ _))
            have Z11 := Lib.hid (show Bx 26 w11 (w.heap.size + 1 + 1) #[.slice none 0 0, .int .i64 0] by rw [← hW]; exact (Z10.out.other (by have hlP := LP.out; have hlV := LV.out; have hs0 := LTX.out; have hs1 := LTM.out; have hs2 := LTZ.out; have hs3 := SS1.out; have hs4 := SS2.out; have hs5 := LWP.out; have hs6 := SS3.out; have hs7 := SS4.out; have hs8 := SS5.out; have hs9 := SS6.out; have hs10 := LWV.out; have hs11 := SS7.out; have hs12 := LUX9.out; have hs13 := LUM9.out; have hs14 := LUZ9.out; have hs15 := LUP9.out; have hs16 := LUV9.out; first | omega | (simp <;> omega)) _ _))
            have P11 := Lib.hid (show Bx 26 w11 (bp) #[.slice A7 (N - 1) c7, .int .i64 d] by rw [← hW]; exact (P10.out.set 0 _))
            have V11 := Lib.hid (show Bx 28 w11 (bv) #[.int .i64 x.1, .int .i64 x.2.1, .int .i64 x.2.2.1, .slice A2 n2 c2] by rw [← hW]; exact (V10.out.other (by have hlP := LP.out; have hlV := LV.out; have hs0 := LTX.out; have hs1 := LTM.out; have hs2 := LTZ.out; have hs3 := SS1.out; have hs4 := SS2.out; have hs5 := LWP.out; have hs6 := SS3.out; have hs7 := SS4.out; have hs8 := SS5.out; have hs9 := SS6.out; have hs10 := LWV.out; have hs11 := SS7.out; have hs12 := LUX9.out; have hs13 := LUM9.out; have hs14 := LUZ9.out; have hs15 := LUP9.out; have hs16 := LUV9.out; first | omega | (simp <;> omega)) _ _))
            have Q11 := Lib.hid (show Rq msg w11 lo hi A n cap ms by rw [← hW]; exact (Q10.out.same (by simp [World.setCell]) fun b h1 h2 => by rw [Below.heap_setCell _ _ _ _ (by have hlP := LP.out; have hlV := LV.out; have hs0 := LTX.out; have hs1 := LTM.out; have hs2 := LTZ.out; have hs3 := SS1.out; have hs4 := SS2.out; have hs5 := LWP.out; have hs6 := SS3.out; have hs7 := SS4.out; have hs8 := SS5.out; have hs9 := SS6.out; have hs10 := LWV.out; have hs11 := SS7.out; have hs12 := LUX9.out; have hs13 := LUM9.out; have hs14 := LUZ9.out; have hs15 := LUP9.out; have hs16 := LUV9.out; first | omega | (simp <;> omega))]))
            have O11 := Lib.hid (show Oe msg w11 w0.heap.size w9.heap.size A7 (N - 1) c7 (((es ++ [f3]).eraseIdx zi)) by rw [← hW]; exact (rgp.oe_setCell O10.out P10.out (by decide) (by decide) 0 _))
            clear hW B10 X10 M10 Z10 P10 V10 Q10 O10
            have cX1 : w11.cell? ⟨w.heap.size, 1, none⟩ = some (.int .i64 d) := X11.out.cell 1
            have cP1 : w11.cell? ⟨bp, 1, none⟩ = some (.int .i64 d) := P11.out.cell 1
            have fP1 : w11.frozen? ⟨bp, 1, none⟩ = false := P11.out.free 1
            have hu := HU.out
            go_upto_region 16 with fail
            clear hu
            clear cX1 cP1 fP1
            have hWW : (w11.setCell ⟨bp, 1, none⟩ (.int .i64 u)) = (w11.setCell ⟨bp, 1, none⟩ (.int .i64 u)) := rfl
            obtain ⟨w12, hW⟩ : ∃ wy, (w11.setCell ⟨bp, 1, none⟩ (.int .i64 u)) = wy := ⟨_, rfl⟩
            rw [hW]
            clear hWW
            have B12 := Lib.hid (show Below w.heap.size w w12 by rw [← hW]; exact (B11.out.setCell (p := ⟨bp, 1, none⟩) (by have hlP := LP.out; have hlV := LV.out; have hs0 := LTX.out; have hs1 := LTM.out; have hs2 := LTZ.out; have hs3 := SS1.out; have hs4 := SS2.out; have hs5 := LWP.out; have hs6 := SS3.out; have hs7 := SS4.out; have hs8 := SS5.out; have hs9 := SS6.out; have hs10 := LWV.out; have hs11 := SS7.out; have hs12 := LUX9.out; have hs13 := LUM9.out; have hs14 := LUZ9.out; have hs15 := LUP9.out; have hs16 := LUV9.out; first | omega | (simp <;> omega)) _))
            have X12 := Lib.hid (show Bx 26 w12 (w.heap.size) #[.slice A n cap, .int .i64 d] by rw [← hW]; exact (X11.out.other (by have hlP := LP.out; have hlV := LV.out; have hs0 := LTX.out; have hs1 := LTM.out; have hs2 := LTZ.out; have hs3 := SS1.out; have hs4 := SS2.out; have hs5 := LWP.out; have hs6 := SS3.out; have hs7 := SS4.out; have hs8 := SS5.out; have hs9 := SS6.out; have hs10 := LWV.out; have hs11 := SS7.out; have hs12 := LUX9.out; have hs13 := LUM9.out; have hs14 := LUZ9.out; have hs15 := LUP9.out; have hs16 := LUV9.out; first | omega | (simp <;> omega)) _ _))
            have M12 := Lib.hid (show Bx 28 w12 (w.heap.size + 1) #[.int .i64 x.1, .int .i64 x.2.1, .int .i64 x.2.2.1, .slice Am nm cm] by rw [← hW]; exact (M11.out.other (by have hlP := LP.out; have hlV := LV.out; have hs0 := LTX.out; have hs1 := LTM.out; have hs2 := LTZ.out; have hs3 := SS1.out; have hs4 := SS2.out; have hs5 := LWP.out; have hs6 := SS3.out; have hs7 := SS4.out; have hs8 := SS5.out; have hs9 := SS6.out; have hs10 := LWV.out; have hs11 := SS7.out; have hs12 := LUX9.out; have hs13 := LUM9.out; have hs14 := LUZ9.out; have hs15 := LUP9.out; have hs16 := LUV9.out; first | omega | (simp <;> omega)) _ _))
            have Z12 := Lib.hid (show Bx 26 w12 (w.heap.size + 1 + 1) #[.slice none 0 0, .int .i64 0] by rw [← hW]; exact (Z11.out.other (by have hlP := LP.out; have hlV := LV.out; have hs0 := LTX.out; have hs1 := LTM.out; have hs2 := LTZ.out; have hs3 := SS1.out; have hs4 := SS2.out; have hs5 := LWP.out; have hs6 := SS3.out; have hs7 := SS4.out; have hs8 := SS5.out; have hs9 := SS6.out; have hs10 := LWV.out; have hs11 := SS7.out; have hs12 := LUX9.out; have hs13 := LUM9.out; have hs14 := LUZ9.out; have hs15 := LUP9.out; have hs16 := LUV9.out; first | omega | (simp <;> omega)) _ _))
            have P12 := Lib.hid (show Bx 26 w12 (bp) #[.slice A7 (N - 1) c7, .int .i64 u] by rw [← hW]; exact (P11.out.set 1 _))
            have V12 := Lib.hid (show Bx 28 w12 (bv) #[.int .i64 x.1, .int .i64 x.2.1, .int .i64 x.2.2.1, .slice A2 n2 c2] by rw [← hW]; exact (V11.out.other (by have hlP := LP.out; have hlV := LV.out; have hs0 := LTX.out; have hs1 := LTM.out; have hs2 := LTZ.out; have hs3 := SS1.out; have hs4 := SS2.out; have hs5 := LWP.out; have hs6 := SS3.out; have hs7 := SS4.out; have hs8 := SS5.out; have hs9 := SS6.out; have hs10 := LWV.out; have hs11 := SS7.out; have hs12 := LUX9.out; have hs13 := LUM9.out; have hs14 := LUZ9.out; have hs15 := LUP9.out; have hs16 := LUV9.out; first | omega | (simp <;> omega)) _ _))
            have Q12 := Lib.hid (show Rq msg w12 lo hi A n cap ms by rw [← hW]; exact (Q11.out.same (by simp [World.setCell]) fun b h1 h2 => by rw [Below.heap_setCell _ _ _ _ (by have hlP := LP.out; have hlV := LV.out; have hs0 := LTX.out; have hs1 := LTM.out; have hs2 := LTZ.out; have hs3 := SS1.out; have hs4 := SS2.out; have hs5 := LWP.out; have hs6 := SS3.out; have hs7 := SS4.out; have hs8 := SS5.out; have hs9 := SS6.out; have hs10 := LWV.out; have hs11 := SS7.out; have hs12 := LUX9.out; have hs13 := LUM9.out; have hs14 := LUZ9.out; have hs15 := LUP9.out; have hs16 := LUV9.out; first | omega | (simp <;> omega))]))
            have O12 := Lib.hid (show Oe msg w12 w0.heap.size w9.heap.size A7 (N - 1) c7 (((es ++ [f3]).eraseIdx zi)) by rw [← hW]; exact (rgp.oe_setCell O11.out P11.out (by decide) (by decide) 1 _))
            clear hW B11 X11 M11 Z11 P11 V11 Q11 O11
            go_wp2_with (first | (refine stw.list_load rfl 26 _ rfl (bp) rfl 26 _ P12.out Try.underlying26 rfl szQ ?_) | (refine stw.list_store rfl 26 _ _ rfl (w.heap.size + 1 + 1) #[.slice A7 (N - 1) c7, .int .i64 u] rfl rfl 26 _ Z12.out rfl szQ (oneQ _ _ _ _) ?_; intro wz13 hz))
            have B13 := Lib.hid (hz.on B12.out (by have hlP := LP.out; have hlV := LV.out; have hs0 := LTX.out; have hs1 := LTM.out; have hs2 := LTZ.out; have hs3 := SS1.out; have hs4 := SS2.out; have hs5 := LWP.out; have hs6 := SS3.out; have hs7 := SS4.out; have hs8 := SS5.out; have hs9 := SS6.out; have hs10 := LWV.out; have hs11 := SS7.out; have hs12 := LUX9.out; have hs13 := LUM9.out; have hs14 := LUZ9.out; have hs15 := LUP9.out; have hs16 := LUV9.out; first | omega | (simp <;> omega)))
            have X13 := Lib.hid (hz.keep X12.out (by have hlP := LP.out; have hlV := LV.out; have hs0 := LTX.out; have hs1 := LTM.out; have hs2 := LTZ.out; have hs3 := SS1.out; have hs4 := SS2.out; have hs5 := LWP.out; have hs6 := SS3.out; have hs7 := SS4.out; have hs8 := SS5.out; have hs9 := SS6.out; have hs10 := LWV.out; have hs11 := SS7.out; have hs12 := LUX9.out; have hs13 := LUM9.out; have hs14 := LUZ9.out; have hs15 := LUP9.out; have hs16 := LUV9.out; first | omega | (simp <;> omega)))
            have M13 := Lib.hid (hz.keep M12.out (by have hlP := LP.out; have hlV := LV.out; have hs0 := LTX.out; have hs1 := LTM.out; have hs2 := LTZ.out; have hs3 := SS1.out; have hs4 := SS2.out; have hs5 := LWP.out; have hs6 := SS3.out; have hs7 := SS4.out; have hs8 := SS5.out; have hs9 := SS6.out; have hs10 := LWV.out; have hs11 := SS7.out; have hs12 := LUX9.out; have hs13 := LUM9.out; have hs14 := LUZ9.out; have hs15 := LUP9.out; have hs16 := LUV9.out; first | omega | (simp <;> omega)))
            have Z13 := Lib.hid (hz.box)
            have P13 := Lib.hid (hz.keep P12.out (by have hlP := LP.out; have hlV := LV.out; have hs0 := LTX.out; have hs1 := LTM.out; have hs2 := LTZ.out; have hs3 := SS1.out; have hs4 := SS2.out; have hs5 := LWP.out; have hs6 := SS3.out; have hs7 := SS4.out; have hs8 := SS5.out; have hs9 := SS6.out; have hs10 := LWV.out; have hs11 := SS7.out; have hs12 := LUX9.out; have hs13 := LUM9.out; have hs14 := LUZ9.out; have hs15 := LUP9.out; have hs16 := LUV9.out; first | omega | (simp <;> omega)))
            have V13 := Lib.hid (hz.keep V12.out (by have hlP := LP.out; have hlV := LV.out; have hs0 := LTX.out; have hs1 := LTM.out; have hs2 := LTZ.out; have hs3 := SS1.out; have hs4 := SS2.out; have hs5 := LWP.out; have hs6 := SS3.out; have hs7 := SS4.out; have hs8 := SS5.out; have hs9 := SS6.out; have hs10 := LWV.out; have hs11 := SS7.out; have hs12 := LUX9.out; have hs13 := LUM9.out; have hs14 := LUZ9.out; have hs15 := LUP9.out; have hs16 := LUV9.out; first | omega | (simp <;> omega)))
            have Q13 := Lib.hid (Q12.out.same hz.below.size fun b h1 h2 => hz.other b (by have hlP := LP.out; have hlV := LV.out; have hs0 := LTX.out; have hs1 := LTM.out; have hs2 := LTZ.out; have hs3 := SS1.out; have hs4 := SS2.out; have hs5 := LWP.out; have hs6 := SS3.out; have hs7 := SS4.out; have hs8 := SS5.out; have hs9 := SS6.out; have hs10 := LWV.out; have hs11 := SS7.out; have hs12 := LUX9.out; have hs13 := LUM9.out; have hs14 := LUZ9.out; have hs15 := LUP9.out; have hs16 := LUV9.out; first | omega | (simp <;> omega)))
            have O13 := Lib.hid (rgp.oe_set O12.out Z12.out (by decide) (by decide) hz.below.size (fun k hk => hz.other k hk))
            clear hz B12 X12 M12 Z12 P12 V12 Q12 O12
            (try simp only [Exit.inBlock, Exit.then])
            refine bodyPost_ret (v := .agg #[.slice A7 (N - 1) c7, .int .i64 u]) ?_ rfl ?_
            · rw [results_cell1 rfl]
              exact stw.back Z13.out Try.underlying26 rfl szQ
            · exact by rw [HEE.out]; exact ⟨_, _, _, rfl, ⟨_, by rw [map_erase, HEQ.out], (O13.out).up.down (by have hlP := LP.out; have hlV := LV.out; have hs0 := LTX.out; have hs1 := LTM.out; have hs2 := LTZ.out; have hs3 := SS1.out; have hs4 := SS2.out; have hs5 := LWP.out; have hs6 := SS3.out; have hs7 := SS4.out; have hs8 := SS5.out; have hs9 := SS6.out; have hs10 := LWV.out; have hs11 := SS7.out; have hs12 := LUX9.out; have hs13 := LUM9.out; have hs14 := LUZ9.out; have hs15 := LUP9.out; have hs16 := LUV9.out; first | omega | (simp <;> omega))⟩, B13.out⟩
    | false =>
      have HE := Lib.hid (show enq ms d x = (ms, d) by unfold enq; rw [HQV.out, HMV.out]; rfl)
      go_wp2_with (first | (refine stw.list_load rfl 26 _ rfl (bp) rfl 26 _ P4.out Try.underlying26 rfl szQ ?_) | (refine stw.list_store rfl 26 _ _ rfl (w.heap.size + 1 + 1) #[.slice A1 n c1, .int .i64 d] rfl rfl 26 _ Z4.out rfl szQ (oneQ _ _ _ _) ?_; intro wz5 hz))
      have B5 := Lib.hid (hz.on B4.out (by have hlP := LP.out; have hs0 := LTX.out; have hs1 := LTM.out; have hs2 := LTZ.out; have hs3 := SS1.out; have hs4 := SS2.out; have hs5 := LWP.out; have hs6 := SS3.out; have hs7 := SS4.out; first | omega | (simp <;> omega)))
      have X5 := Lib.hid (hz.keep X4.out (by have hlP := LP.out; have hs0 := LTX.out; have hs1 := LTM.out; have hs2 := LTZ.out; have hs3 := SS1.out; have hs4 := SS2.out; have hs5 := LWP.out; have hs6 := SS3.out; have hs7 := SS4.out; first | omega | (simp <;> omega)))
      have M5 := Lib.hid (hz.keep M4.out (by have hlP := LP.out; have hs0 := LTX.out; have hs1 := LTM.out; have hs2 := LTZ.out; have hs3 := SS1.out; have hs4 := SS2.out; have hs5 := LWP.out; have hs6 := SS3.out; have hs7 := SS4.out; first | omega | (simp <;> omega)))
      have Z5 := Lib.hid (hz.box)
      have P5 := Lib.hid (hz.keep P4.out (by have hlP := LP.out; have hs0 := LTX.out; have hs1 := LTM.out; have hs2 := LTZ.out; have hs3 := SS1.out; have hs4 := SS2.out; have hs5 := LWP.out; have hs6 := SS3.out; have hs7 := SS4.out; first | omega | (simp <;> omega)))
      have Q5 := Lib.hid (Q4.out.same hz.below.size fun b h1 h2 => hz.other b (by have hlP := LP.out; have hs0 := LTX.out; have hs1 := LTM.out; have hs2 := LTZ.out; have hs3 := SS1.out; have hs4 := SS2.out; have hs5 := LWP.out; have hs6 := SS3.out; have hs7 := SS4.out; first | omega | (simp <;> omega)))
      have R5 := Lib.hid (R4.out.same hz.below.size fun b h1 h2 => hz.other b (by have hlP := LP.out; have hs0 := LTX.out; have hs1 := LTM.out; have hs2 := LTZ.out; have hs3 := SS1.out; have hs4 := SS2.out; have hs5 := LWP.out; have hs6 := SS3.out; have hs7 := SS4.out; first | omega | (simp <;> omega)))
      have O5 := Lib.hid (rgp.oe_set O4.out Z4.out (by decide) (by decide) hz.below.size (fun k hk => hz.other k hk))
      clear hz B4 X4 M4 Z4 P4 Q4 R4 O4
      (try simp only [Exit.inBlock, Exit.then])
      refine bodyPost_ret (v := .agg #[.slice A1 n c1, .int .i64 d]) ?_ rfl ?_
      · rw [results_cell1 rfl]
        exact stw.back Z5.out Try.underlying26 rfl szQ
      · exact by rw [HE.out]; exact ⟨_, _, _, rfl, ⟨_, HES.out, (O5.out).up.down (by have hlP := LP.out; have hs0 := LTX.out; have hs1 := LTM.out; have hs2 := LTZ.out; have hs3 := SS1.out; have hs4 := SS2.out; have hs5 := LWP.out; have hs6 := SS3.out; have hs7 := SS4.out; first | omega | (simp <;> omega))⟩, B5.out⟩
  | false =>
    have HE := Lib.hid (show enq ms d x = (ms, d) by unfold enq; rw [HQV.out]; rfl)
    go_wp2_with (first | (refine stw.list_load rfl 26 _ rfl (bp) rfl 26 _ P3.out Try.underlying26 rfl szQ ?_) | (refine stw.list_store rfl 26 _ _ rfl (w.heap.size + 1 + 1) #[.slice A1 n c1, .int .i64 d] rfl rfl 26 _ Z3.out rfl szQ (oneQ _ _ _ _) ?_; intro wz4 hz))
    have B4 := Lib.hid (hz.on B3.out (by have hlP := LP.out; have hs0 := LTX.out; have hs1 := LTM.out; have hs2 := LTZ.out; have hs3 := SS1.out; have hs4 := SS2.out; have hs5 := LWP.out; have hs6 := SS3.out; first | omega | (simp <;> omega)))
    have X4 := Lib.hid (hz.keep X3.out (by have hlP := LP.out; have hs0 := LTX.out; have hs1 := LTM.out; have hs2 := LTZ.out; have hs3 := SS1.out; have hs4 := SS2.out; have hs5 := LWP.out; have hs6 := SS3.out; first | omega | (simp <;> omega)))
    have M4 := Lib.hid (hz.keep M3.out (by have hlP := LP.out; have hs0 := LTX.out; have hs1 := LTM.out; have hs2 := LTZ.out; have hs3 := SS1.out; have hs4 := SS2.out; have hs5 := LWP.out; have hs6 := SS3.out; first | omega | (simp <;> omega)))
    have Z4 := Lib.hid (hz.box)
    have P4 := Lib.hid (hz.keep P3.out (by have hlP := LP.out; have hs0 := LTX.out; have hs1 := LTM.out; have hs2 := LTZ.out; have hs3 := SS1.out; have hs4 := SS2.out; have hs5 := LWP.out; have hs6 := SS3.out; first | omega | (simp <;> omega)))
    have Q4 := Lib.hid (Q3.out.same hz.below.size fun b h1 h2 => hz.other b (by have hlP := LP.out; have hs0 := LTX.out; have hs1 := LTM.out; have hs2 := LTZ.out; have hs3 := SS1.out; have hs4 := SS2.out; have hs5 := LWP.out; have hs6 := SS3.out; first | omega | (simp <;> omega)))
    have R4 := Lib.hid (R3.out.same hz.below.size fun b h1 h2 => hz.other b (by have hlP := LP.out; have hs0 := LTX.out; have hs1 := LTM.out; have hs2 := LTZ.out; have hs3 := SS1.out; have hs4 := SS2.out; have hs5 := LWP.out; have hs6 := SS3.out; first | omega | (simp <;> omega)))
    have O4 := Lib.hid (rgp.oe_set O3.out Z3.out (by decide) (by decide) hz.below.size (fun k hk => hz.other k hk))
    clear hz B3 X3 M3 Z3 P3 Q3 R3 O3
    (try simp only [Exit.inBlock, Exit.then])
    refine bodyPost_ret (v := .agg #[.slice A1 n c1, .int .i64 d]) ?_ rfl ?_
    · rw [results_cell1 rfl]
      exact stw.back Z4.out Try.underlying26 rfl szQ
    · exact by rw [HE.out]; exact ⟨_, _, _, rfl, ⟨_, HES.out, (O4.out).up.down (by have hlP := LP.out; have hs0 := LTX.out; have hs1 := LTM.out; have hs2 := LTZ.out; have hs3 := SS1.out; have hs4 := SS2.out; have hs5 := LWP.out; have hs6 := SS3.out; first | omega | (simp <;> omega))⟩, B4.out⟩
end Go.Proofs.Ytjmenbpalihnnaa.mq
