/- Copies of queues, program and specification. Condition: sizes up to 2^26. -/
import Derived.Test.YtjmenbpalihnnaaQc3
import Derived.Test.YtjmenbpalihnnaaRgp
namespace Go.Proofs.Ytjmenbpalihnnaa.mq
open Go.RowKit sl harn bx mrw
set_option linter.unusedVariables false
set_option linter.unusedSimpArgs false

/-- A block without cells is an empty row. -/
theorem oe_box {α : Type} {S : Sh α} {w : World} {b : Nat} (h : Bx S.T w b #[]) : Oe S w b w.heap.size (some ⟨b, 0, none⟩) 0 0 [] :=
  ⟨⟨by simp [flat], .inr ⟨b, 0, #[], rfl, Nat.le_refl _, h, Nat.le_refl _, by unfold maxLen; omega, by simp, by simp [flat]⟩⟩, fun _ h => (by cases h), List.Pairwise.nil, Nat.le_refl _, fun g o e => by
    injection e with e; injection e with e _; subst e; exact h.lt⟩
set_option maxRecDepth 100000 in
set_option maxHeartbeats 4000000 in
theorem implCq (ms : List Msg) (d : Int) (A : Option Addr) (n cap lo hi : Nat) (hn : n ≤ 67108864) (hbd : ∀ y ∈ ms, y.2.2.2.length ≤ 67108864) (w : World) (h : Rq msg w lo hi A n cap ms) :
    Calls Try.prog 62 #[qV A n cap d] w (QPost (ms, d) w) := by
  obtain ⟨i0, hi0, hz0, hz1, hz2⟩ := info_parts infoM
  have HZ := Lib.hid (And.intro hi0 (And.intro hz0 (And.intro hz1 hz2)))
  clear hi0 hz0 hz1 hz2
  have QW := Lib.hid h
  have hqh := h.hi_
  have hqc := h.cap_
  have HBD := Lib.hid hbd
  clear h hbd
  go_enter Try.func62, Try.ntmps62
  go_wp2_with fail
  obtain ⟨w0, hW⟩ : ∃ w0, ((w.alloc (.cells #[.slice A n cap, .int .i64 d] 26)).alloc (.cells #[.slice none 0 0, .int .i64 0] 26)).alloc (.cells #[] 28) = w0 := ⟨_, rfl⟩
  rw [hW]
  have B0 := Lib.hid (show Below w.heap.size w w0 by rw [← hW]; exact (((Below.refl _ _).alloc (by simp <;> omega) _).alloc (by simp <;> omega) _).alloc (by simp <;> omega) _)
  have X0 := Lib.hid (show Bx 26 w0 (w.heap.size) #[.slice A n cap, .int .i64 d] by
      rw [← hW]
      have hh := Bx.made 26 w #[.slice A n cap, .int .i64 d]
      exact ((hh.below (below_box _ _)).below (below_box _ _)))
  have Z0 := Lib.hid (show Bx 26 w0 (w.heap.size + 1) #[.slice none 0 0, .int .i64 0] by
      rw [← hW]
      have hh : Bx 26 ((w.alloc (.cells #[.slice A n cap, .int .i64 d] 26)).alloc (.cells #[.slice none 0 0, .int .i64 0] 26)) (w.heap.size + 1) #[.slice none 0 0, .int .i64 0] := by have hh := Bx.made 26 (w.alloc (.cells #[.slice A n cap, .int .i64 d] 26)) #[.slice none 0 0, .int .i64 0]; simpa using hh
      exact (hh.below (below_box _ _)))
  have E0 := Lib.hid (show Bx 28 w0 (w.heap.size + 1 + 1) #[] by
      rw [← hW]
      have hh : Bx 28 (((w.alloc (.cells #[.slice A n cap, .int .i64 d] 26)).alloc (.cells #[.slice none 0 0, .int .i64 0] 26)).alloc (.cells #[] 28)) (w.heap.size + 1 + 1) #[] := by have hh := Bx.made 28 ((w.alloc (.cells #[.slice A n cap, .int .i64 d] 26)).alloc (.cells #[.slice none 0 0, .int .i64 0] 26)) #[]; simpa using hh
      exact hh)
  have Q0 := Lib.hid (show Rq msg w0 lo hi A n cap ms by rw [← hW]; exact (((QW.out.below (below_box _ _)).below (below_box _ _)).below (below_box _ _)))
  clear hW
  have O0 := Lib.hid (show Oe msg w0 (w.heap.size + 1 + 1) w0.heap.size (some ⟨w.heap.size + 1 + 1, 0, none⟩) 0 0 [] from oe_box (S := msg) E0.out)
  clear E0
  go_loopw [3, 10] (fun v0 v1 wr => ∃ (k : Nat) (A1 : Option Addr) (c1 : Nat) (es : List (El Msg)), v0 = .slice A1 k c1 ∧ v1 = .int .i64 ((k : Int)) ∧ (k ≤ n) ∧ (es.map (·.x) = ms.take k) ∧ Below w.heap.size w wr ∧ Bx 26 wr w.heap.size #[.slice A n cap, .int .i64 d] ∧ Bx 26 wr (w.heap.size + 1) #[.slice none 0 0, .int .i64 0] ∧ Rq msg wr lo hi A n cap ms ∧ Oe msg wr (w.heap.size + 1 + 1) wr.heap.size A1 k c1 es) (fun _ i _ => n - (intOf i).toNat)
  case atStart => exact ⟨0, (some ⟨w.heap.size + 1 + 1, 0, none⟩), 0, [], rfl, rfl, by omega, by simp, B0.out, X0.out, Z0.out, Q0.out, O0.out⟩
  case round =>
    obtain ⟨k, A1, c1, es, rfl, rfl, ghk, ghe, gB1, gX1, gZ1, gQ1, gO1⟩ := hrel
    have B1 := Lib.hid gB1
    have X1 := Lib.hid gX1
    have Z1 := Lib.hid gZ1
    have Q1 := Lib.hid gQ1
    have O1 := Lib.hid gO1
    have hk := Lib.hid ghk
    have he := Lib.hid ghe
    clear gB1 gX1 gZ1 gQ1 gO1 ghk ghe
    have LTX := Lib.hid X1.out.lt
    have LTZ := Lib.hid Z1.out.lt
    have hk := hk.out
    by_cases hlt : k < n
    · obtain ⟨b, off, y, hA, hy, h1, h2, A', n', c', hd, ce0, ce1, ce2, ce3⟩ := at_ Q1.out hlt
      have HY := Lib.hid hy
      have D1 := Lib.hid hd
      clear hy hd
      subst hA
      have hlt2 : (k : Int) < n := by omega
      have HT := Lib.hid (take_snoc HY.out)
      have HLN := Lib.hid (show n' ≤ 67108864 from (show y.2.2.2.length = n' from D1.out.len) ▸ HBD.out y (List.mem_of_getElem? HY.out))
      go_wp2_with fail
      clear ce0 ce1 ce2 ce3
      obtain ⟨bv, hbb⟩ : ∃ b, wr.heap.size = b := ⟨_, rfl⟩
      generalize hW : wr.alloc (.cells #[.int .i64 y.1, .int .i64 y.2.1, .int .i64 y.2.2.1, .slice A' n' c'] 28) = w2
      have LV := Lib.hid (show w.heap.size ≤ bv ∧ w.heap.size < bv ∧ w.heap.size + 1 < bv ∧ hi ≤ bv ∧ wr.heap.size ≤ bv ∧ hi ≤ bv by have h1 := B1.out.size; have h2X := X1.out.lt; have h2Z := Z1.out.lt; have h2Q := Q1.out.hi_; have h2O := O1.out.hi_; have h2D := D1.out.hi_; have h3 := hbb; omega)
      have V2 := Lib.hid (show Bx 28 w2 bv #[.int .i64 y.1, .int .i64 y.2.1, .int .i64 y.2.2.1, .slice A' n' c'] by rw [← hW, ← hbb]; exact Bx.made _ _ _)
      have hb : Below wr.heap.size wr w2 := by rw [← hW]; exact below_box _ _
      (try rw [hbb])
      clear hW hbb
      have SS2 := Lib.hid hb.size
      have B2 := Lib.hid (B1.out.trans (hb.mono B1.out.size))
      have X2 := Lib.hid (X1.out.below hb)
      have Z2 := Lib.hid (Z1.out.below hb)
      have Q2 := Lib.hid (Q1.out.below hb)
      have O2 := Lib.hid (O1.out.below hb)
      have D2 := Lib.hid (D1.out.below hb)
      clear hb B1 X1 Z1 Q1 O1 D1
      (with_reducible refine (implCm y A' n' c' _ _ _ D2.out HLN.out).mono ?_)
      rintro e w3 hp
      obtain ⟨A2, n2, c2, rfl, ho2, hb⟩ := x_parts hp
      clear hp
      have SS3 := Lib.hid hb.size
      have B3 := Lib.hid (B2.out.trans (hb.mono B2.out.size))
      have X3 := Lib.hid (X2.out.below hb)
      have Z3 := Lib.hid (Z2.out.below hb)
      have V3 := Lib.hid (V2.out.below hb)
      have Q3 := Lib.hid (Q2.out.below hb)
      have O3 := Lib.hid (O2.out.below hb)
      have D3 := Lib.hid (D2.out.below hb)
      clear hb B2 X2 Z2 V2 Q2 O2 D2
      have H3 := Lib.hid ho2
      clear ho2
      go_wp2_with (at_builtin; refine list_push w3 rfl _ _ 24 rfl Try.underlying24 HZ.out.1 HZ.out.2.1 HZ.out.2.2.1 (by rw [HZ.out.2.2.2]; omega) rfl rfl rfl O3.out ⟨y, A2, n2, c2⟩ H3.out (by have hlV := LV.out; have hs0 := LTX.out; have hs1 := LTZ.out; have hs2 := SS2.out; have hs3 := SS3.out; first | omega | (simp <;> omega)) (by have hlV := LV.out; have hs0 := LTX.out; have hs1 := LTZ.out; have hs2 := SS2.out; have hs3 := SS3.out; first | omega | (simp <;> omega)) (by omega) (by have hlV := LV.out; have hs0 := LTX.out; have hs1 := LTZ.out; have hs2 := SS2.out; have hs3 := SS3.out; first | omega | (simp <;> omega)) ?_; intro A3 c3 w4 ho hg; have B4 := Lib.hid (below_grown B3.out hg (fun q hq => by have hlV := LV.out; have hs0 := LTX.out; have hs1 := LTZ.out; have hs2 := SS2.out; have hs3 := SS3.out; have := (O3.out.lo_ hq).1; omega) B3.out.size); have X4 := Lib.hid (grown_bx X3.out hg (rgp.ne_type X3.out O3.out (by decide))); have Z4 := Lib.hid (grown_bx Z3.out hg (rgp.ne_type Z3.out O3.out (by decide))); have V4 := Lib.hid (grown_bx V3.out hg (fun e => by have hlV := LV.out; have hs0 := LTX.out; have hs1 := LTZ.out; have hs2 := SS2.out; have hs3 := SS3.out; have := O3.out.lo_ e.symm; omega)); have Q4 := Lib.hid (rq_grown Q3.out O3.out hg (by have hlV := LV.out; have hs0 := LTX.out; have hs1 := LTZ.out; have hs2 := SS2.out; have hs3 := SS3.out; first | omega | (simp <;> omega))); have H4 := Lib.hid (ow_grown O3.out hg H3.out); have SS4 := Lib.hid hg.size; clear B3 X3 Z3 V3 Q3 O3 H3; have O4 := Lib.hid ho; clear ho hg)
      go_roundw
      case rel => exact ⟨k + 1, A3, c3, _, rfl, by go_num, by omega, by rw [List.map_append, he.out, HT.out]; rfl, B4.out, X4.out, Z4.out, Q4.out, O4.out⟩
      case measure => simp [intOf]; omega
    · have hlt2 : ¬ (k : Int) < n := by omega
      obtain rfl : n = k := by omega
      have HF := Lib.hid (show es.map (·.x) = ms by rw [he.out]; exact List.take_of_length_le (by rw [Q1.out.len]; exact Nat.le_refl _))
      have cX0 : wr.cell? ⟨w.heap.size, 0, none⟩ = some (.slice A n cap) := X1.out.cell 0
      have cX1 : wr.cell? ⟨w.heap.size, 1, none⟩ = some (.int .i64 d) := X1.out.cell 1
      have fX0 : wr.frozen? ⟨w.heap.size, 0, none⟩ = false := X1.out.free 0
      have cZ0 : wr.cell? ⟨w.heap.size + 1, 0, none⟩ = some (.slice none 0 0) := Z1.out.cell 0
      have cZ1 : wr.cell? ⟨w.heap.size + 1, 1, none⟩ = some (.int .i64 0) := Z1.out.cell 1
      have fZ0 : wr.frozen? ⟨w.heap.size + 1, 0, none⟩ = false := Z1.out.free 0
      have fZ1 : wr.frozen? ⟨w.heap.size + 1, 1, none⟩ = false := Z1.out.free 1
      go_wp2_with fail
      (try simp only [Exit.inBlock, Exit.then])
      refine bodyPost_ret (v := qV A1 n c1 d) ?_ rfl ⟨A1, n, c1, rfl, ⟨es, HF.out, ?_⟩, ?_⟩
      · rw [results_cell1 rfl]
        go_simp
      · exact ((O1.out).same (by simp [World.setCell]) (fun b h1 _ => by rw [Below.heap_setCell _ _ _ _ (show b ≠ w.heap.size + 1 by omega), Below.heap_setCell _ _ _ _ (show b ≠ w.heap.size + 1 by omega), Below.heap_setCell _ _ _ _ (show b ≠ w.heap.size by omega)])).up.down (by omega)
      · exact (((B1.out.setCell (p := ⟨w.heap.size, 0, none⟩) (by show w.heap.size ≤ w.heap.size; omega) _).setCell (p := ⟨w.heap.size + 1, 0, none⟩) (by show w.heap.size ≤ w.heap.size + 1; omega) _).setCell (p := ⟨w.heap.size + 1, 1, none⟩) (by show w.heap.size ≤ w.heap.size + 1; omega) _)
set_option maxRecDepth 100000 in
set_option maxHeartbeats 4000000 in
theorem specCq (ms : List Msg) (d : Int) (A : Option Addr) (n cap lo hi : Nat) (hn : n ≤ 67108864) (hbd : ∀ y ∈ ms, y.2.2.2.length ≤ 67108864) (w : World) (h : Rq msg w lo hi A n cap ms) :
    Calls Try.prog 109 #[qV A n cap d] w (QPost (ms, d) w) := by
  obtain ⟨i0, hi0, hz0, hz1, hz2⟩ := info_parts infoM
  have HZ := Lib.hid (And.intro hi0 (And.intro hz0 (And.intro hz1 hz2)))
  clear hi0 hz0 hz1 hz2
  have QW := Lib.hid h
  have hqh := h.hi_
  have hqc := h.cap_
  have HBD := Lib.hid hbd
  clear h hbd
  go_enter Try.func109, Try.ntmps109
  go_wp2_with fail
  obtain ⟨w0, hW⟩ : ∃ w0, ((w.alloc (.cells #[.slice A n cap, .int .i64 d] 26)).alloc (.cells #[.slice none 0 0, .int .i64 0] 26)).alloc (.cells #[.slice none 0 0, .int .i64 d] 26) = w0 := ⟨_, rfl⟩
  rw [hW]
  have B0 := Lib.hid (show Below w.heap.size w w0 by rw [← hW]; exact (((Below.refl _ _).alloc (by simp <;> omega) _).alloc (by simp <;> omega) _).alloc (by simp <;> omega) _)
  have X0 := Lib.hid (show Bx 26 w0 (w.heap.size) #[.slice A n cap, .int .i64 d] by
      rw [← hW]
      have hh := Bx.made 26 w #[.slice A n cap, .int .i64 d]
      exact ((hh.below (below_box _ _)).below (below_box _ _)))
  have Z0 := Lib.hid (show Bx 26 w0 (w.heap.size + 1) #[.slice none 0 0, .int .i64 0] by
      rw [← hW]
      have hh : Bx 26 ((w.alloc (.cells #[.slice A n cap, .int .i64 d] 26)).alloc (.cells #[.slice none 0 0, .int .i64 0] 26)) (w.heap.size + 1) #[.slice none 0 0, .int .i64 0] := by have hh := Bx.made 26 (w.alloc (.cells #[.slice A n cap, .int .i64 d] 26)) #[.slice none 0 0, .int .i64 0]; simpa using hh
      exact (hh.below (below_box _ _)))
  have P0 := Lib.hid (show Bx 26 w0 (w.heap.size + 1 + 1) #[.slice none 0 0, .int .i64 d] by
      rw [← hW]
      have hh : Bx 26 (((w.alloc (.cells #[.slice A n cap, .int .i64 d] 26)).alloc (.cells #[.slice none 0 0, .int .i64 0] 26)).alloc (.cells #[.slice none 0 0, .int .i64 d] 26)) (w.heap.size + 1 + 1) #[.slice none 0 0, .int .i64 d] := by have hh := Bx.made 26 ((w.alloc (.cells #[.slice A n cap, .int .i64 d] 26)).alloc (.cells #[.slice none 0 0, .int .i64 0] 26)) #[.slice none 0 0, .int .i64 d]; simpa using hh
      exact hh)
  have Q0 := Lib.hid (show Rq msg w0 lo hi A n cap ms by rw [← hW]; exact (((QW.out.below (below_box _ _)).below (below_box _ _)).below (below_box _ _)))
  clear hW
  have O0 := Lib.hid (Oe.nil_ msg w0 (w.heap.size + 1 + 1 + 1) w0.heap.size (Nat.le_refl _))
  go_loopw [4] (fun v0 wr => ∃ (k : Nat) (A1 : Option Addr) (c1 : Nat) (es : List (El Msg)), v0 = .int .i64 ((k : Int)) ∧ (k ≤ n) ∧ (es.map (·.x) = ms.take k) ∧ Below w.heap.size w wr ∧ Bx 26 wr w.heap.size #[.slice A n cap, .int .i64 d] ∧ Bx 26 wr (w.heap.size + 1) #[.slice none 0 0, .int .i64 0] ∧ Bx 26 wr (w.heap.size + 1 + 1) #[.slice A1 k c1, .int .i64 d] ∧ Rq msg wr lo hi A n cap ms ∧ Oe msg wr (w.heap.size + 1 + 1 + 1) wr.heap.size A1 k c1 es) (fun i _ => n - (intOf i).toNat)
  case atStart => exact ⟨0, none, 0, [], rfl, by omega, by simp, B0.out, X0.out, Z0.out, P0.out, Q0.out, O0.out⟩
  case round =>
    obtain ⟨k, A1, c1, es, rfl, ghk, ghe, gB1, gX1, gZ1, gP1, gQ1, gO1⟩ := hrel
    have B1 := Lib.hid gB1
    have X1 := Lib.hid gX1
    have Z1 := Lib.hid gZ1
    have P1 := Lib.hid gP1
    have Q1 := Lib.hid gQ1
    have O1 := Lib.hid gO1
    have hk := Lib.hid ghk
    have he := Lib.hid ghe
    clear gB1 gX1 gZ1 gP1 gQ1 gO1 ghk ghe
    have LTX := Lib.hid X1.out.lt
    have LTZ := Lib.hid Z1.out.lt
    have LTP := Lib.hid P1.out.lt
    have hk := hk.out
    have cX0 : wr.cell? ⟨w.heap.size, 0, none⟩ = some (.slice A n cap) := X1.out.cell 0
    by_cases hlt : k < n
    · clear cX0
      obtain ⟨b, off, y, hA, hy, h1, h2, A', n', c', hd, ce0, ce1, ce2, ce3⟩ := at_ Q1.out hlt
      have HY := Lib.hid hy
      have D1 := Lib.hid hd
      clear hy hd
      subst hA
      have cX0 : wr.cell? ⟨w.heap.size, 0, none⟩ = some (.slice (some ⟨b, off, none⟩) n cap) := X1.out.cell 0
      have hlt2 : (k : Int) < n := by omega
      have HT := Lib.hid (take_snoc HY.out)
      have HLN := Lib.hid (show n' ≤ 67108864 from (show y.2.2.2.length = n' from D1.out.len) ▸ HBD.out y (List.mem_of_getElem? HY.out))
      go_wp2_with fail
      clear ce0 ce1 ce2 ce3
      clear cX0
      (with_reducible refine (specCm y A' n' c' _ _ _ D1.out HLN.out).mono ?_)
      rintro e w2 hp
      obtain ⟨A2, n2, c2, rfl, ho2, hb⟩ := x_parts hp
      clear hp
      have SS2 := Lib.hid hb.size
      have B2 := Lib.hid (B1.out.trans (hb.mono B1.out.size))
      have X2 := Lib.hid (X1.out.below hb)
      have Z2 := Lib.hid (Z1.out.below hb)
      have P2 := Lib.hid (P1.out.below hb)
      have Q2 := Lib.hid (Q1.out.below hb)
      have O2 := Lib.hid (O1.out.below hb)
      have D2 := Lib.hid (D1.out.below hb)
      clear hb B1 X1 Z1 P1 Q1 O1 D1
      have H2 := Lib.hid ho2
      clear ho2
      go_upto_region 6 with fail
      obtain ⟨bv, hbb⟩ : ∃ b, w2.heap.size = b := ⟨_, rfl⟩
      generalize hW : w2.alloc (.cells #[.int .i64 y.1, .int .i64 y.2.1, .int .i64 y.2.2.1, .slice A2 n2 c2] 28) = w3
      have LV := Lib.hid (show w.heap.size ≤ bv ∧ w.heap.size < bv ∧ w.heap.size + 1 < bv ∧ w.heap.size + 1 + 1 < bv ∧ hi ≤ bv ∧ wr.heap.size ≤ bv ∧ w2.heap.size ≤ bv by have h1 := B2.out.size; have h2X := X2.out.lt; have h2Z := Z2.out.lt; have h2P := P2.out.lt; have h2Q := Q2.out.hi_; have h2O := O2.out.hi_; have h2H := H2.out.hi_; have h3 := hbb; omega)
      have V3 := Lib.hid (show Bx 28 w3 bv #[.int .i64 y.1, .int .i64 y.2.1, .int .i64 y.2.2.1, .slice A2 n2 c2] by rw [← hW, ← hbb]; exact Bx.made _ _ _)
      have hb : Below w2.heap.size w2 w3 := by rw [← hW]; exact below_box _ _
      (try rw [hbb])
      clear hW hbb
      have SS3 := Lib.hid hb.size
      have B3 := Lib.hid (B2.out.trans (hb.mono B2.out.size))
      have X3 := Lib.hid (X2.out.below hb)
      have Z3 := Lib.hid (Z2.out.below hb)
      have P3 := Lib.hid (P2.out.below hb)
      have Q3 := Lib.hid (Q2.out.below hb)
      have O3 := Lib.hid (O2.out.below hb)
      have H3 := Lib.hid (H2.out.below hb)
      clear hb B2 X2 Z2 P2 Q2 O2 H2
      have cP0 : w3.cell? ⟨w.heap.size + 1 + 1, 0, none⟩ = some (.slice A1 k c1) := P3.out.cell 0
      have cV0 : w3.cell? ⟨bv, 0, none⟩ = some (.int .i64 y.1) := V3.out.cell 0
      have cV1 : w3.cell? ⟨bv, 1, none⟩ = some (.int .i64 y.2.1) := V3.out.cell 1
      have cV2 : w3.cell? ⟨bv, 2, none⟩ = some (.int .i64 y.2.2.1) := V3.out.cell 2
      have cV3 : w3.cell? ⟨bv, 3, none⟩ = some (.slice A2 n2 c2) := V3.out.cell 3
      go_wp2_with (at_builtin; refine list_push w3 rfl _ _ 24 rfl Try.underlying24 HZ.out.1 HZ.out.2.1 HZ.out.2.2.1 (by rw [HZ.out.2.2.2]; omega) rfl rfl rfl O3.out ⟨y, A2, n2, c2⟩ H3.out (by have hlV := LV.out; have hs0 := LTX.out; have hs1 := LTZ.out; have hs2 := LTP.out; have hs3 := SS2.out; have hs4 := SS3.out; first | omega | (simp <;> omega)) (by have hlV := LV.out; have hs0 := LTX.out; have hs1 := LTZ.out; have hs2 := LTP.out; have hs3 := SS2.out; have hs4 := SS3.out; first | omega | (simp <;> omega)) (by omega) (by have hlV := LV.out; have hs0 := LTX.out; have hs1 := LTZ.out; have hs2 := LTP.out; have hs3 := SS2.out; have hs4 := SS3.out; first | omega | (simp <;> omega)) ?_; intro A3 c3 w4 ho hg; have B4 := Lib.hid (below_grown B3.out hg (fun q hq => by have hlV := LV.out; have hs0 := LTX.out; have hs1 := LTZ.out; have hs2 := LTP.out; have hs3 := SS2.out; have hs4 := SS3.out; have := (O3.out.lo_ hq).1; omega) B3.out.size); have X4 := Lib.hid (grown_bx X3.out hg (rgp.ne_type X3.out O3.out (by decide))); have Z4 := Lib.hid (grown_bx Z3.out hg (rgp.ne_type Z3.out O3.out (by decide))); have P4 := Lib.hid (grown_bx P3.out hg (rgp.ne_type P3.out O3.out (by decide))); have V4 := Lib.hid (grown_bx V3.out hg (fun e => by have hlV := LV.out; have hs0 := LTX.out; have hs1 := LTZ.out; have hs2 := LTP.out; have hs3 := SS2.out; have hs4 := SS3.out; have := O3.out.lo_ e.symm; omega)); have Q4 := Lib.hid (rq_grown Q3.out O3.out hg (by have hlV := LV.out; have hs0 := LTX.out; have hs1 := LTZ.out; have hs2 := LTP.out; have hs3 := SS2.out; have hs4 := SS3.out; first | omega | (simp <;> omega))); have H4 := Lib.hid (ow_grown O3.out hg H3.out); have SS4 := Lib.hid hg.size; clear B3 X3 Z3 P3 V3 Q3 O3 H3; have O4 := Lib.hid ho; clear ho hg; have cP0 : w4.cell? ⟨w.heap.size + 1 + 1, 0, none⟩ = some (.slice A1 k c1) := P4.out.cell 0; have fP0 : w4.frozen? ⟨w.heap.size + 1 + 1, 0, none⟩ = false := P4.out.free 0)
      clear cP0 cV0 cV1 cV2 cV3
      clear cP0 fP0
      have hWW : (w4.setCell ⟨w.heap.size + 1 + 1, 0, none⟩ (.slice A3 (k + 1) c3)) = (w4.setCell ⟨w.heap.size + 1 + 1, 0, none⟩ (.slice A3 (k + 1) c3)) := rfl
      obtain ⟨w5, hW⟩ : ∃ wy, (w4.setCell ⟨w.heap.size + 1 + 1, 0, none⟩ (.slice A3 (k + 1) c3)) = wy := ⟨_, rfl⟩
      rw [hW]
      clear hWW
      have B5 := Lib.hid (show Below w.heap.size w w5 by rw [← hW]; exact (B4.out.setCell (p := ⟨w.heap.size + 1 + 1, 0, none⟩) (by have hlV := LV.out; first | omega | (simp <;> omega)) _))
      have X5 := Lib.hid (show Bx 26 w5 (w.heap.size) #[.slice (some ⟨b, off, none⟩) n cap, .int .i64 d] by rw [← hW]; exact (X4.out.other (by have hlV := LV.out; first | omega | (simp <;> omega)) _ _))
      have Z5 := Lib.hid (show Bx 26 w5 (w.heap.size + 1) #[.slice none 0 0, .int .i64 0] by rw [← hW]; exact (Z4.out.other (by have hlV := LV.out; first | omega | (simp <;> omega)) _ _))
      have P5 := Lib.hid (show Bx 26 w5 (w.heap.size + 1 + 1) #[.slice A3 (k + 1) c3, .int .i64 d] by rw [← hW]; exact (P4.out.set 0 _))
      have Q5 := Lib.hid (show Rq msg w5 lo hi (some ⟨b, off, none⟩) n cap ms by rw [← hW]; exact (Q4.out.same (by simp [World.setCell]) fun b h1 h2 => by rw [Below.heap_setCell _ _ _ _ (by have hlV := LV.out; have hs0 := LTX.out; have hs1 := LTZ.out; have hs2 := LTP.out; have hs3 := SS2.out; have hs4 := SS3.out; have hs5 := SS4.out; first | omega | (simp <;> omega))]))
      have O5 := Lib.hid (show Oe msg w5 (w.heap.size + 1 + 1 + 1) w4.heap.size A3 (k + 1) c3 (es ++ [⟨y, A2, n2, c2⟩]) by rw [← hW]; exact (rgp.oe_setCell O4.out P4.out (by decide) (by decide) 0 _))
      clear hW B4 X4 Z4 P4 Q4 O4
      go_roundw
      case rel => exact ⟨k + 1, A3, c3, _, by go_num, by omega, by rw [List.map_append, he.out, HT.out]; rfl, B5.out, X5.out, Z5.out, P5.out, Q5.out, O5.out.up⟩
      case measure => simp [intOf]; omega
    · have hlt2 : ¬ (k : Int) < n := by omega
      obtain rfl : n = k := by omega
      have HF := Lib.hid (show es.map (·.x) = ms by rw [he.out]; exact List.take_of_length_le (by rw [Q1.out.len]; exact Nat.le_refl _))
      have cP0 : wr.cell? ⟨w.heap.size + 1 + 1, 0, none⟩ = some (.slice A1 n c1) := P1.out.cell 0
      have cP1 : wr.cell? ⟨w.heap.size + 1 + 1, 1, none⟩ = some (.int .i64 d) := P1.out.cell 1
      have cZ0 : wr.cell? ⟨w.heap.size + 1, 0, none⟩ = some (.slice none 0 0) := Z1.out.cell 0
      have cZ1 : wr.cell? ⟨w.heap.size + 1, 1, none⟩ = some (.int .i64 0) := Z1.out.cell 1
      have fZ0 : wr.frozen? ⟨w.heap.size + 1, 0, none⟩ = false := Z1.out.free 0
      have fZ1 : wr.frozen? ⟨w.heap.size + 1, 1, none⟩ = false := Z1.out.free 1
      go_wp2_with fail
      (try simp only [Exit.inBlock, Exit.then])
      refine bodyPost_ret (v := qV A1 n c1 d) ?_ rfl ⟨A1, n, c1, rfl, ⟨es, HF.out, ?_⟩, ?_⟩
      · rw [results_cell1 rfl]
        go_simp
      · exact ((O1.out).same (by simp [World.setCell]) (fun b h1 _ => by rw [Below.heap_setCell _ _ _ _ (show b ≠ w.heap.size + 1 by omega), Below.heap_setCell _ _ _ _ (show b ≠ w.heap.size + 1 by omega)])).up.down (by omega)
      · exact ((B1.out.setCell (p := ⟨w.heap.size + 1, 0, none⟩) (by show w.heap.size ≤ w.heap.size + 1; omega) _).setCell (p := ⟨w.heap.size + 1, 1, none⟩) (by show w.heap.size ≤ w.heap.size + 1; omega) _)
end Go.Proofs.Ytjmenbpalihnnaa.mq
