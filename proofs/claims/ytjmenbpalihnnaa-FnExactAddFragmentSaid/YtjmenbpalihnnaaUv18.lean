/- The harness over reassemblies and slices of them. Condition: sizes up to 2^26. -/
import Derived.Test.YtjmenbpalihnnaaUs18
import Derived.Deep.QuietTactic
import Derived.Test.YtjmenbpalihnnaaQh1
namespace Go.Proofs.Ytjmenbpalihnnaa.ux
open Go.RowKit sl harn bx stw
set_option linter.unusedVariables false
set_option linter.unusedSimpArgs false

theorem infoRea : (Try.prog.info? 58).map (fun i => (i.zero, i.size, i.bytes)) = some (some (.agg #[.int .i64 0, .int .i64 0, .int .i64 0, .slice none 0 0, .int .i64 0]), 5, 56) := by kernel_rfl
theorem szLRea : (Try.prog.info? 103).map (·.size) = some 5 := by kernel_rfl
set_option maxRecDepth 100000 in
set_option maxHeartbeats 4000000 in
theorem szReassembly {w : World} {lo hi : Nat} {v : Value} {x : Rea} (left : Int) (hl : 0 ≤ left ∧ left ≤ 1048576) (h : RR rea w lo hi v x) :
    Calls Try.prog 93 #[v, .int .i64 left] w (ZPost left (rea.sz x) w) := by
  have LH := Lib.hid h.hi_
  obtain ⟨A0, n0, c0, rfl, g0⟩ := rea_r h
  show Calls Try.prog 93 #[reaV x (.slice A0 n0 c0), .int .i64 left] w (ZPost left (bytes.sz x.Body) w)
  have P0W := Lib.hid g0
  have LL0 := Lib.hid hl
  clear h hl g0
  obtain ⟨s0, hs0⟩ : ∃ s, bytes.sz x.Body = s := ⟨_, rfl⟩
  rw [hs0]
  have HS0 := Lib.hid hs0
  clear hs0
  go_enter Try.func93, Try.ntmps93
  go_wp2_with fail
  obtain ⟨w0, hW⟩ : ∃ w0, w.alloc (.cells #[.int .i64 x.From, .int .i64 x.Seq, .int .i64 x.Next, .slice A0 n0 c0, .int .i64 x.Started] 103) = w0 := ⟨_, rfl⟩
  rw [hW]
  have B0 := Lib.hid (show Below w.heap.size w w0 by rw [← hW]; exact (Below.refl _ _).alloc (by simp <;> omega) _)
  have X0 := Lib.hid (show Bx 103 w0 (w.heap.size) #[.int .i64 x.From, .int .i64 x.Seq, .int .i64 x.Next, .slice A0 n0 c0, .int .i64 x.Started] by
      rw [← hW]
      have hh := Bx.made 103 w #[.int .i64 x.From, .int .i64 x.Seq, .int .i64 x.Next, .slice A0 n0 c0, .int .i64 x.Started]
      exact hh)
  have P00 := Lib.hid (show RR bytes w0 lo hi (.slice A0 n0 c0) x.Body by rw [← hW]; exact (P0W.out.below (below_box _ _)))
  clear hW
  have LTX := Lib.hid X0.out.lt
  (with_reducible refine (szByteS left LL0.out P00.out).mono ?_)
  rintro e w1 hp
  obtain ⟨r0, rfl, hor, hb⟩ := hp.parts
  rw [HS0.out] at hor
  clear hp
  have SS1 := Lib.hid hb.size
  have B1 := Lib.hid (B0.out.trans (hb.mono B0.out.size))
  have X1 := Lib.hid (X0.out.below hb)
  have P01 := Lib.hid (P00.out.below hb)
  clear hb B0 X0 P00
  rcases hor with ⟨hm, hlo⟩ | ⟨hr, hle⟩
  · subst hm
    have HLO := Lib.hid hlo
    clear hlo
    go_wp2_with fail
    go_ret
    exact ⟨-1, rfl, .inl ⟨rfl, by  have q9 := HLO.out; omega⟩, B1.out⟩
  · have HR0 := Lib.hid hr
    have HE0 := Lib.hid hle
    have hng : ¬ r0 < 0 := by omega
    have LL1 := Lib.hid (show 0 ≤ r0 ∧ r0 ≤ 1048576 by have q9 := LL0.out; omega)
    clear hr hle
    have cX0 : w1.cell? ⟨w.heap.size, 0, none⟩ = some (.int .i64 x.From) := X1.out.cell 0
    have cX1 : w1.cell? ⟨w.heap.size, 1, none⟩ = some (.int .i64 x.Seq) := X1.out.cell 1
    have cX2 : w1.cell? ⟨w.heap.size, 2, none⟩ = some (.int .i64 x.Next) := X1.out.cell 2
    have cX3 : w1.cell? ⟨w.heap.size, 3, none⟩ = some (.slice A0 n0 c0) := X1.out.cell 3
    have cX4 : w1.cell? ⟨w.heap.size, 4, none⟩ = some (.int .i64 x.Started) := X1.out.cell 4
    go_wp2_with fail
    clear cX0 cX1 cX2 cX3 cX4
    go_ret
    exact ⟨r0, rfl, .inr ⟨by  have q0 := HR0.out; have p0 := HE0.out; omega, by  have q0 := HR0.out; have p0 := HE0.out; omega⟩, B1.out⟩
set_option maxRecDepth 100000 in
set_option maxHeartbeats 4000000 in
theorem toReassembly {w : World} {lo hi : Nat} {v : Value} {x : Rea} (h : RR rea w lo hi v x) (hs : rea.sz x ≤ 67108864) :
    Calls Try.prog 97 #[v] w (ToPost rea x w) := by
  have LH := Lib.hid h.hi_
  obtain ⟨A0, n0, c0, rfl, g0⟩ := rea_r h
  have P0W := Lib.hid g0
  have hs9 : bytes.sz x.Body ≤ 67108864 := hs
  have HS0 := Lib.hid (show bytes.sz x.Body ≤ 67108864 by omega)
  clear hs9
  clear h hs g0
  go_enter Try.func97, Try.ntmps97
  go_upto_region 2 with fail
  obtain ⟨w0, hW⟩ : ∃ w0, ((w.alloc (.cells #[.int .i64 x.From, .int .i64 x.Seq, .int .i64 x.Next, .slice A0 n0 c0, .int .i64 x.Started] 103)).alloc (.cells #[.int .i64 0, .int .i64 0, .int .i64 0, .slice none 0 0, .int .i64 0] 58)).alloc (.cells #[.int .i64 0, .int .i64 0, .int .i64 0, .slice none 0 0, .int .i64 0] 58) = w0 := ⟨_, rfl⟩
  rw [hW]
  have B0 := Lib.hid (show Below w.heap.size w w0 by rw [← hW]; exact (((Below.refl _ _).alloc (by simp <;> omega) _).alloc (by simp <;> omega) _).alloc (by simp <;> omega) _)
  have X0 := Lib.hid (show Bx 103 w0 (w.heap.size) #[.int .i64 x.From, .int .i64 x.Seq, .int .i64 x.Next, .slice A0 n0 c0, .int .i64 x.Started] by
      rw [← hW]
      have hh := Bx.made 103 w #[.int .i64 x.From, .int .i64 x.Seq, .int .i64 x.Next, .slice A0 n0 c0, .int .i64 x.Started]
      exact ((hh.below (below_box _ _)).below (below_box _ _)))
  have Z0 := Lib.hid (show Bx 58 w0 (w.heap.size + 1) #[.int .i64 0, .int .i64 0, .int .i64 0, .slice none 0 0, .int .i64 0] by
      rw [← hW]
      have hh : Bx 58 ((w.alloc (.cells #[.int .i64 x.From, .int .i64 x.Seq, .int .i64 x.Next, .slice A0 n0 c0, .int .i64 x.Started] 103)).alloc (.cells #[.int .i64 0, .int .i64 0, .int .i64 0, .slice none 0 0, .int .i64 0] 58)) (w.heap.size + 1) #[.int .i64 0, .int .i64 0, .int .i64 0, .slice none 0 0, .int .i64 0] := by have hh := Bx.made 58 (w.alloc (.cells #[.int .i64 x.From, .int .i64 x.Seq, .int .i64 x.Next, .slice A0 n0 c0, .int .i64 x.Started] 103)) #[.int .i64 0, .int .i64 0, .int .i64 0, .slice none 0 0, .int .i64 0]; simpa using hh
      exact (hh.below (below_box _ _)))
  have O0 := Lib.hid (show Bx 58 w0 (w.heap.size + 1 + 1) #[.int .i64 0, .int .i64 0, .int .i64 0, .slice none 0 0, .int .i64 0] by
      rw [← hW]
      have hh : Bx 58 (((w.alloc (.cells #[.int .i64 x.From, .int .i64 x.Seq, .int .i64 x.Next, .slice A0 n0 c0, .int .i64 x.Started] 103)).alloc (.cells #[.int .i64 0, .int .i64 0, .int .i64 0, .slice none 0 0, .int .i64 0] 58)).alloc (.cells #[.int .i64 0, .int .i64 0, .int .i64 0, .slice none 0 0, .int .i64 0] 58)) (w.heap.size + 1 + 1) #[.int .i64 0, .int .i64 0, .int .i64 0, .slice none 0 0, .int .i64 0] := by have hh := Bx.made 58 ((w.alloc (.cells #[.int .i64 x.From, .int .i64 x.Seq, .int .i64 x.Next, .slice A0 n0 c0, .int .i64 x.Started] 103)).alloc (.cells #[.int .i64 0, .int .i64 0, .int .i64 0, .slice none 0 0, .int .i64 0] 58)) #[.int .i64 0, .int .i64 0, .int .i64 0, .slice none 0 0, .int .i64 0]; simpa using hh
      exact hh)
  have P00 := Lib.hid (show RR bytes w0 lo hi (.slice A0 n0 c0) x.Body by rw [← hW]; exact (((P0W.out.below (below_box _ _)).below (below_box _ _)).below (below_box _ _)))
  clear hW
  have LTX := Lib.hid X0.out.lt
  have LTZ := Lib.hid Z0.out.lt
  have LTO := Lib.hid O0.out.lt
  have cX0 : w0.cell? ⟨w.heap.size, 0, none⟩ = some (.int .i64 x.From) := X0.out.cell 0
  have cX1 : w0.cell? ⟨w.heap.size, 1, none⟩ = some (.int .i64 x.Seq) := X0.out.cell 1
  have cX2 : w0.cell? ⟨w.heap.size, 2, none⟩ = some (.int .i64 x.Next) := X0.out.cell 2
  have cX3 : w0.cell? ⟨w.heap.size, 3, none⟩ = some (.slice A0 n0 c0) := X0.out.cell 3
  have cX4 : w0.cell? ⟨w.heap.size, 4, none⟩ = some (.int .i64 x.Started) := X0.out.cell 4
  have cO0 : w0.cell? ⟨w.heap.size + 1 + 1, 0, none⟩ = some (.int .i64 0) := O0.out.cell 0
  have cO1 : w0.cell? ⟨w.heap.size + 1 + 1, 1, none⟩ = some (.int .i64 0) := O0.out.cell 1
  have cO2 : w0.cell? ⟨w.heap.size + 1 + 1, 2, none⟩ = some (.int .i64 0) := O0.out.cell 2
  have cO3 : w0.cell? ⟨w.heap.size + 1 + 1, 3, none⟩ = some (.slice none 0 0) := O0.out.cell 3
  have cO4 : w0.cell? ⟨w.heap.size + 1 + 1, 4, none⟩ = some (.int .i64 0) := O0.out.cell 4
  have fO0 : w0.frozen? ⟨w.heap.size + 1 + 1, 0, none⟩ = false := O0.out.free 0
  have fO1 : w0.frozen? ⟨w.heap.size + 1 + 1, 1, none⟩ = false := O0.out.free 1
  have fO2 : w0.frozen? ⟨w.heap.size + 1 + 1, 2, none⟩ = false := O0.out.free 2
  have fO3 : w0.frozen? ⟨w.heap.size + 1 + 1, 3, none⟩ = false := O0.out.free 3
  have fO4 : w0.frozen? ⟨w.heap.size + 1 + 1, 4, none⟩ = false := O0.out.free 4
  go_wp2_with fail
  clear cX0 cX1 cX2 cX3 cX4 cO0 cO1 cO2 cO3 cO4 fO0 fO1 fO2 fO3 fO4
  have hWW : (((w0.setCell ⟨w.heap.size + 1 + 1, 0, none⟩ (.int .i64 x.From)).setCell ⟨w.heap.size + 1 + 1, 1, none⟩ (.int .i64 x.Seq)).setCell ⟨w.heap.size + 1 + 1, 2, none⟩ (.int .i64 x.Next)) = (((w0.setCell ⟨w.heap.size + 1 + 1, 0, none⟩ (.int .i64 x.From)).setCell ⟨w.heap.size + 1 + 1, 1, none⟩ (.int .i64 x.Seq)).setCell ⟨w.heap.size + 1 + 1, 2, none⟩ (.int .i64 x.Next)) := rfl
  obtain ⟨w1, hW⟩ : ∃ wy, (((w0.setCell ⟨w.heap.size + 1 + 1, 0, none⟩ (.int .i64 x.From)).setCell ⟨w.heap.size + 1 + 1, 1, none⟩ (.int .i64 x.Seq)).setCell ⟨w.heap.size + 1 + 1, 2, none⟩ (.int .i64 x.Next)) = wy := ⟨_, rfl⟩
  rw [hW]
  clear hWW
  have B1 := Lib.hid (show Below w.heap.size w w1 by rw [← hW]; exact (((B0.out.setCell (p := ⟨w.heap.size + 1 + 1, 0, none⟩) (by have hs0 := LTX.out; have hs1 := LTZ.out; have hs2 := LTO.out; have hs3 := LH.out; first | omega | (simp <;> omega)) _).setCell (p := ⟨w.heap.size + 1 + 1, 1, none⟩) (by have hs0 := LTX.out; have hs1 := LTZ.out; have hs2 := LTO.out; have hs3 := LH.out; first | omega | (simp <;> omega)) _).setCell (p := ⟨w.heap.size + 1 + 1, 2, none⟩) (by have hs0 := LTX.out; have hs1 := LTZ.out; have hs2 := LTO.out; have hs3 := LH.out; first | omega | (simp <;> omega)) _))
  have X1 := Lib.hid (show Bx 103 w1 (w.heap.size) #[.int .i64 x.From, .int .i64 x.Seq, .int .i64 x.Next, .slice A0 n0 c0, .int .i64 x.Started] by rw [← hW]; exact (((X0.out.other (by have hs0 := LTX.out; have hs1 := LTZ.out; have hs2 := LTO.out; have hs3 := LH.out; first | omega | (simp <;> omega)) _ _).other (by have hs0 := LTX.out; have hs1 := LTZ.out; have hs2 := LTO.out; have hs3 := LH.out; first | omega | (simp <;> omega)) _ _).other (by have hs0 := LTX.out; have hs1 := LTZ.out; have hs2 := LTO.out; have hs3 := LH.out; first | omega | (simp <;> omega)) _ _))
  have Z1 := Lib.hid (show Bx 58 w1 (w.heap.size + 1) #[.int .i64 0, .int .i64 0, .int .i64 0, .slice none 0 0, .int .i64 0] by rw [← hW]; exact (((Z0.out.other (by have hs0 := LTX.out; have hs1 := LTZ.out; have hs2 := LTO.out; have hs3 := LH.out; first | omega | (simp <;> omega)) _ _).other (by have hs0 := LTX.out; have hs1 := LTZ.out; have hs2 := LTO.out; have hs3 := LH.out; first | omega | (simp <;> omega)) _ _).other (by have hs0 := LTX.out; have hs1 := LTZ.out; have hs2 := LTO.out; have hs3 := LH.out; first | omega | (simp <;> omega)) _ _))
  have O1 := Lib.hid (show Bx 58 w1 (w.heap.size + 1 + 1) #[.int .i64 x.From, .int .i64 x.Seq, .int .i64 x.Next, .slice none 0 0, .int .i64 0] by rw [← hW]; exact (((O0.out.set 0 _).set 1 _).set 2 _))
  have P01 := Lib.hid (show RR bytes w1 lo hi (.slice A0 n0 c0) x.Body by rw [← hW]; exact (P00.out.same (by simp [World.setCell]) fun b h1 h2 => by rw [Below.heap_setCell _ _ _ _ (by have hs0 := LTX.out; have hs1 := LTZ.out; have hs2 := LTO.out; have hs3 := LH.out; first | omega | (simp <;> omega))]; rw [Below.heap_setCell _ _ _ _ (by have hs0 := LTX.out; have hs1 := LTZ.out; have hs2 := LTO.out; have hs3 := LH.out; first | omega | (simp <;> omega))]; rw [Below.heap_setCell _ _ _ _ (by have hs0 := LTX.out; have hs1 := LTZ.out; have hs2 := LTO.out; have hs3 := LH.out; first | omega | (simp <;> omega))]))
  clear hW B0 X0 Z0 O0 P00
  have SP1 := Lib.hid O1.out.lt
  (with_reducible refine (toByteS P01.out HS0.out).mono ?_)
  rintro e w2 hp
  obtain ⟨u0, f0, rfl, ho, hb⟩ := hp.parts
  obtain ⟨Ab0, nb0, cb0, rfl⟩ := bytes_slo ho.1
  clear hp
  have SS2 := Lib.hid hb.size
  have B2 := Lib.hid (B1.out.trans (hb.mono B1.out.size))
  have X2 := Lib.hid (X1.out.below hb)
  have Z2 := Lib.hid (Z1.out.below hb)
  have O2 := Lib.hid (O1.out.below hb)
  have P02 := Lib.hid (P01.out.below hb)
  clear hb B1 X1 Z1 O1 P01
  have N02 := Lib.hid ho
  clear ho
  have cX0 : w2.cell? ⟨w.heap.size, 0, none⟩ = some (.int .i64 x.From) := X2.out.cell 0
  have cX1 : w2.cell? ⟨w.heap.size, 1, none⟩ = some (.int .i64 x.Seq) := X2.out.cell 1
  have cX2 : w2.cell? ⟨w.heap.size, 2, none⟩ = some (.int .i64 x.Next) := X2.out.cell 2
  have cX3 : w2.cell? ⟨w.heap.size, 3, none⟩ = some (.slice A0 n0 c0) := X2.out.cell 3
  have cX4 : w2.cell? ⟨w.heap.size, 4, none⟩ = some (.int .i64 x.Started) := X2.out.cell 4
  have cO0 : w2.cell? ⟨w.heap.size + 1 + 1, 0, none⟩ = some (.int .i64 x.From) := O2.out.cell 0
  have cO1 : w2.cell? ⟨w.heap.size + 1 + 1, 1, none⟩ = some (.int .i64 x.Seq) := O2.out.cell 1
  have cO2 : w2.cell? ⟨w.heap.size + 1 + 1, 2, none⟩ = some (.int .i64 x.Next) := O2.out.cell 2
  have cO3 : w2.cell? ⟨w.heap.size + 1 + 1, 3, none⟩ = some (.slice none 0 0) := O2.out.cell 3
  have cO4 : w2.cell? ⟨w.heap.size + 1 + 1, 4, none⟩ = some (.int .i64 0) := O2.out.cell 4
  have fO0 : w2.frozen? ⟨w.heap.size + 1 + 1, 0, none⟩ = false := O2.out.free 0
  have fO1 : w2.frozen? ⟨w.heap.size + 1 + 1, 1, none⟩ = false := O2.out.free 1
  have fO2 : w2.frozen? ⟨w.heap.size + 1 + 1, 2, none⟩ = false := O2.out.free 2
  have fO3 : w2.frozen? ⟨w.heap.size + 1 + 1, 3, none⟩ = false := O2.out.free 3
  have fO4 : w2.frozen? ⟨w.heap.size + 1 + 1, 4, none⟩ = false := O2.out.free 4
  go_upto_region 7 with fail
  clear cX0 cX1 cX2 cX3 cX4 cO0 cO1 cO2 cO3 cO4 fO0 fO1 fO2 fO3 fO4
  have hWW : ((w2.setCell ⟨w.heap.size + 1 + 1, 3, none⟩ (.slice Ab0 nb0 cb0)).setCell ⟨w.heap.size + 1 + 1, 4, none⟩ (.int .i64 x.Started)) = ((w2.setCell ⟨w.heap.size + 1 + 1, 3, none⟩ (.slice Ab0 nb0 cb0)).setCell ⟨w.heap.size + 1 + 1, 4, none⟩ (.int .i64 x.Started)) := rfl
  obtain ⟨w3, hW⟩ : ∃ wy, ((w2.setCell ⟨w.heap.size + 1 + 1, 3, none⟩ (.slice Ab0 nb0 cb0)).setCell ⟨w.heap.size + 1 + 1, 4, none⟩ (.int .i64 x.Started)) = wy := ⟨_, rfl⟩
  rw [hW]
  clear hWW
  have B3 := Lib.hid (show Below w.heap.size w w3 by rw [← hW]; exact ((B2.out.setCell (p := ⟨w.heap.size + 1 + 1, 3, none⟩) (by have hs0 := LTX.out; have hs1 := LTZ.out; have hs2 := LTO.out; have hs3 := LH.out; have hs4 := SP1.out; have hs5 := SS2.out; first | omega | (simp <;> omega)) _).setCell (p := ⟨w.heap.size + 1 + 1, 4, none⟩) (by have hs0 := LTX.out; have hs1 := LTZ.out; have hs2 := LTO.out; have hs3 := LH.out; have hs4 := SP1.out; have hs5 := SS2.out; first | omega | (simp <;> omega)) _))
  have X3 := Lib.hid (show Bx 103 w3 (w.heap.size) #[.int .i64 x.From, .int .i64 x.Seq, .int .i64 x.Next, .slice A0 n0 c0, .int .i64 x.Started] by rw [← hW]; exact ((X2.out.other (by have hs0 := LTX.out; have hs1 := LTZ.out; have hs2 := LTO.out; have hs3 := LH.out; have hs4 := SP1.out; have hs5 := SS2.out; first | omega | (simp <;> omega)) _ _).other (by have hs0 := LTX.out; have hs1 := LTZ.out; have hs2 := LTO.out; have hs3 := LH.out; have hs4 := SP1.out; have hs5 := SS2.out; first | omega | (simp <;> omega)) _ _))
  have Z3 := Lib.hid (show Bx 58 w3 (w.heap.size + 1) #[.int .i64 0, .int .i64 0, .int .i64 0, .slice none 0 0, .int .i64 0] by rw [← hW]; exact ((Z2.out.other (by have hs0 := LTX.out; have hs1 := LTZ.out; have hs2 := LTO.out; have hs3 := LH.out; have hs4 := SP1.out; have hs5 := SS2.out; first | omega | (simp <;> omega)) _ _).other (by have hs0 := LTX.out; have hs1 := LTZ.out; have hs2 := LTO.out; have hs3 := LH.out; have hs4 := SP1.out; have hs5 := SS2.out; first | omega | (simp <;> omega)) _ _))
  have O3 := Lib.hid (show Bx 58 w3 (w.heap.size + 1 + 1) #[.int .i64 x.From, .int .i64 x.Seq, .int .i64 x.Next, .slice Ab0 nb0 cb0, .int .i64 x.Started] by rw [← hW]; exact ((O2.out.set 3 _).set 4 _))
  have P03 := Lib.hid (show RR bytes w3 lo hi (.slice A0 n0 c0) x.Body by rw [← hW]; exact (P02.out.same (by simp [World.setCell]) fun b h1 h2 => by rw [Below.heap_setCell _ _ _ _ (by have hs0 := LTX.out; have hs1 := LTZ.out; have hs2 := LTO.out; have hs3 := LH.out; have hs4 := SP1.out; have hs5 := SS2.out; first | omega | (simp <;> omega))]; rw [Below.heap_setCell _ _ _ _ (by have hs0 := LTX.out; have hs1 := LTZ.out; have hs2 := LTO.out; have hs3 := LH.out; have hs4 := SP1.out; have hs5 := SS2.out; first | omega | (simp <;> omega))]))
  have N03 := Lib.hid (show OO bytes w3 w1.heap.size w2.heap.size f0 (.slice Ab0 nb0 cb0) x.Body by rw [← hW]; exact (N02.out.same (by simp [World.setCell]) fun b h1 h2 => by rw [Below.heap_setCell _ _ _ _ (by have hs0 := LTX.out; have hs1 := LTZ.out; have hs2 := LTO.out; have hs3 := LH.out; have hs4 := SP1.out; have hs5 := SS2.out; first | omega | (simp <;> omega))]; rw [Below.heap_setCell _ _ _ _ (by have hs0 := LTX.out; have hs1 := LTZ.out; have hs2 := LTO.out; have hs3 := LH.out; have hs4 := SP1.out; have hs5 := SS2.out; first | omega | (simp <;> omega))]))
  clear hW B2 X2 Z2 O2 P02 N02
  go_wp2_with (first | (refine stw.list_load rfl 58 _ rfl (w.heap.size + 1 + 1) rfl 58 _ O3.out Try.underlying58 rfl szRea ?_) | (refine stw.list_store rfl 58 _ _ rfl (w.heap.size + 1) #[.int .i64 x.From, .int .i64 x.Seq, .int .i64 x.Next, .slice Ab0 nb0 cb0, .int .i64 x.Started] rfl rfl 58 _ Z3.out rfl szRea (oneRea _ _ _ _ _ _ _) ?_; intro wz4 hz))
  have B4 := Lib.hid (hz.on B3.out (by have hs0 := LTX.out; have hs1 := LTZ.out; have hs2 := LTO.out; have hs3 := LH.out; have hs4 := SP1.out; have hs5 := SS2.out; first | omega | (simp <;> omega)))
  have X4 := Lib.hid (hz.keep X3.out (by have hs0 := LTX.out; have hs1 := LTZ.out; have hs2 := LTO.out; have hs3 := LH.out; have hs4 := SP1.out; have hs5 := SS2.out; first | omega | (simp <;> omega)))
  have Z4 := Lib.hid (hz.box)
  have O4 := Lib.hid (hz.keep O3.out (by have hs0 := LTX.out; have hs1 := LTZ.out; have hs2 := LTO.out; have hs3 := LH.out; have hs4 := SP1.out; have hs5 := SS2.out; first | omega | (simp <;> omega)))
  have P04 := Lib.hid (P03.out.same hz.below.size fun b h1 h2 => hz.other b (by have hs0 := LTX.out; have hs1 := LTZ.out; have hs2 := LTO.out; have hs3 := LH.out; have hs4 := SP1.out; have hs5 := SS2.out; first | omega | (simp <;> omega)))
  have N04 := Lib.hid (N03.out.same hz.below.size fun b h1 h2 => hz.other b (by have hs0 := LTX.out; have hs1 := LTZ.out; have hs2 := LTO.out; have hs3 := LH.out; have hs4 := SP1.out; have hs5 := SS2.out; first | omega | (simp <;> omega)))
  clear hz B3 X3 Z3 O3 P03 N03
  (try simp only [Exit.inBlock, Exit.then])
  refine bodyPost_ret (v := .agg #[.int .i64 x.From, .int .i64 x.Seq, .int .i64 x.Next, .slice Ab0 nb0 cb0, .int .i64 x.Started]) ?_ rfl ?_
  · rw [results_cell1 rfl]
    exact stw.back Z4.out Try.underlying58 rfl szRea
  · exact ⟨_, _, rfl, rea_mk (N04.out.wide (by have hs0 := LTX.out; have hs1 := LTZ.out; have hs2 := LTO.out; have hs3 := LH.out; have hs4 := SP1.out; have hs5 := SS2.out;  first | omega | (simp <;> omega))) (bytes.nd N04.out.1), B4.out⟩
set_option maxRecDepth 100000 in
set_option maxHeartbeats 4000000 in
theorem eqReassembly {w : World} {lo hi lo2 hi2 : Nat} {v u : Value} {x : Rea} (h : RR rea w lo hi v x) (h2 : RR rea w lo2 hi2 u x) :
    Calls Try.prog 45 #[v, u] w (BPost true w) := by
  have LH := Lib.hid h.hi_
  have LH2 := Lib.hid h2.hi_
  obtain ⟨A0, n0, c0, rfl, g0⟩ := rea_r h
  obtain ⟨Ab0, nb0, cb0, rfl, gb0⟩ := rea_r h2
  have P0W := Lib.hid g0
  have Q0W := Lib.hid gb0
  clear h h2 g0 gb0
  go_enter Try.func45, Try.ntmps45
  go_wp2_with fail
  obtain ⟨w0, hW⟩ : ∃ w0, (w.alloc (.cells #[.int .i64 x.From, .int .i64 x.Seq, .int .i64 x.Next, .slice A0 n0 c0, .int .i64 x.Started] 58)).alloc (.cells #[.int .i64 x.From, .int .i64 x.Seq, .int .i64 x.Next, .slice Ab0 nb0 cb0, .int .i64 x.Started] 58) = w0 := ⟨_, rfl⟩
  rw [hW]
  have B0 := Lib.hid (show Below w.heap.size w w0 by rw [← hW]; exact ((Below.refl _ _).alloc (by simp <;> omega) _).alloc (by simp <;> omega) _)
  have X0 := Lib.hid (show Bx 58 w0 (w.heap.size) #[.int .i64 x.From, .int .i64 x.Seq, .int .i64 x.Next, .slice A0 n0 c0, .int .i64 x.Started] by
      rw [← hW]
      have hh := Bx.made 58 w #[.int .i64 x.From, .int .i64 x.Seq, .int .i64 x.Next, .slice A0 n0 c0, .int .i64 x.Started]
      exact (hh.below (below_box _ _)))
  have Y0 := Lib.hid (show Bx 58 w0 (w.heap.size + 1) #[.int .i64 x.From, .int .i64 x.Seq, .int .i64 x.Next, .slice Ab0 nb0 cb0, .int .i64 x.Started] by
      rw [← hW]
      have hh : Bx 58 ((w.alloc (.cells #[.int .i64 x.From, .int .i64 x.Seq, .int .i64 x.Next, .slice A0 n0 c0, .int .i64 x.Started] 58)).alloc (.cells #[.int .i64 x.From, .int .i64 x.Seq, .int .i64 x.Next, .slice Ab0 nb0 cb0, .int .i64 x.Started] 58)) (w.heap.size + 1) #[.int .i64 x.From, .int .i64 x.Seq, .int .i64 x.Next, .slice Ab0 nb0 cb0, .int .i64 x.Started] := by have hh := Bx.made 58 (w.alloc (.cells #[.int .i64 x.From, .int .i64 x.Seq, .int .i64 x.Next, .slice A0 n0 c0, .int .i64 x.Started] 58)) #[.int .i64 x.From, .int .i64 x.Seq, .int .i64 x.Next, .slice Ab0 nb0 cb0, .int .i64 x.Started]; simpa using hh
      exact hh)
  have P00 := Lib.hid (show RR bytes w0 lo hi (.slice A0 n0 c0) x.Body by rw [← hW]; exact ((P0W.out.below (below_box _ _)).below (below_box _ _)))
  have Q00 := Lib.hid (show RR bytes w0 lo2 hi2 (.slice Ab0 nb0 cb0) x.Body by rw [← hW]; exact ((Q0W.out.below (below_box _ _)).below (below_box _ _)))
  clear hW
  have LTX := Lib.hid X0.out.lt
  have LTY := Lib.hid Y0.out.lt
  (with_reducible refine (eqByteS P00.out Q00.out).mono ?_)
  rintro e w1 ⟨rfl, hb⟩
  have SS1 := Lib.hid hb.size
  have B1 := Lib.hid (B0.out.trans (hb.mono B0.out.size))
  have X1 := Lib.hid (X0.out.below hb)
  have Y1 := Lib.hid (Y0.out.below hb)
  have P01 := Lib.hid (P00.out.below hb)
  have Q01 := Lib.hid (Q00.out.below hb)
  clear hb B0 X0 Y0 P00 Q00
  have cX0 : w1.cell? ⟨w.heap.size, 0, none⟩ = some (.int .i64 x.From) := X1.out.cell 0
  have cX1 : w1.cell? ⟨w.heap.size, 1, none⟩ = some (.int .i64 x.Seq) := X1.out.cell 1
  have cX2 : w1.cell? ⟨w.heap.size, 2, none⟩ = some (.int .i64 x.Next) := X1.out.cell 2
  have cX3 : w1.cell? ⟨w.heap.size, 3, none⟩ = some (.slice A0 n0 c0) := X1.out.cell 3
  have cX4 : w1.cell? ⟨w.heap.size, 4, none⟩ = some (.int .i64 x.Started) := X1.out.cell 4
  have cY0 : w1.cell? ⟨w.heap.size + 1, 0, none⟩ = some (.int .i64 x.From) := Y1.out.cell 0
  have cY1 : w1.cell? ⟨w.heap.size + 1, 1, none⟩ = some (.int .i64 x.Seq) := Y1.out.cell 1
  have cY2 : w1.cell? ⟨w.heap.size + 1, 2, none⟩ = some (.int .i64 x.Next) := Y1.out.cell 2
  have cY3 : w1.cell? ⟨w.heap.size + 1, 3, none⟩ = some (.slice Ab0 nb0 cb0) := Y1.out.cell 3
  have cY4 : w1.cell? ⟨w.heap.size + 1, 4, none⟩ = some (.int .i64 x.Started) := Y1.out.cell 4
  go_wp2_with fail
  clear cX0 cX1 cX2 cX3 cX4 cY0 cY1 cY2 cY3 cY4
  go_ret
  exact ⟨rfl, B1.out⟩
def rea_mv (q : Int) (x : Rea) : Rea := { x with Body := bytes.mkx (q) x.Body }
def rea_tv (x : Rea) : Nat := bytes.tot x.Body
set_option maxRecDepth 100000 in
set_option maxHeartbeats 4000000 in
theorem markReassembly {w : World} {lo hi : Nat} {fp : List Nat} {v : Value} {x : Rea} (q : Int) (h : OO rea w lo hi fp v x) (hq : 0 ≤ q ∧ q + (rea_tv x : Nat) ≤ 1099511627776) (hs : rea.sz x ≤ 67108864) :
    Calls Try.prog 46 #[v, .int .i64 q] w (MkPost rea (rea_mv q x) (q + (rea_tv x : Nat)) lo hi fp v w) := by
  obtain ⟨A0, n0, c0, f0, rfl, g0, hf, hn⟩ := rea_o h
  have HH := Lib.hid h.hi_
  have P0 := Lib.hid (g0.below (below_box w (.cells #[.int .i64 x.From, .int .i64 x.Seq, .int .i64 x.Next, .slice A0 n0 c0, .int .i64 x.Started] 58)))
  have LT0 := Lib.hid (S_lt g0)
  have hq2 : 0 ≤ q ∧ q + (bytes.tot x.Body : Nat) ≤ 1099511627776 := hq
  have HQ := Lib.hid hq2
  have HS := Lib.hid (show bytes.sz x.Body ≤ 67108864 from hs)
  subst hf
  clear h g0 hq hs hq2
  go_enter Try.func46, Try.ntmps46
  go_wp2_with fail
  (with_reducible refine (markByteS q P0.out HQ.out HS.out).mono ?_)
  rintro e w1 hp
  obtain ⟨rfl, ho, hk⟩ := hp.parts
  have O1 := Lib.hid ho
  have K1 := Lib.hid ((ks_below (below_box w (.cells #[.int .i64 x.From, .int .i64 x.Seq, .int .i64 x.Next, .slice A0 n0 c0, .int .i64 x.Started] 58)) fp).trans hk)
  clear hp ho hk
  go_wp2_with fail
  go_ret
  exact ⟨rfl, rea_mk (x := rea_mv q x) O1.out hn, K1.out⟩
set_option maxRecDepth 100000 in
set_option maxHeartbeats 4000000 in
theorem heldReassembly {w : World} {lo hi : Nat} {v : Value} {x : Rea} (q : Int) (h : RR rea w lo hi v (rea_mv q x)) (hq : 0 ≤ q ∧ q + (rea_tv x : Nat) ≤ 1099511627776) (hs : rea.sz x ≤ 67108864) :
    Calls Try.prog 47 #[v, .int .i64 q] w (NPost (q + (rea_tv x : Nat)) w) := by
  obtain ⟨A0, n0, c0, rfl, g0⟩ := rea_r h
  have P0 := Lib.hid (show RR bytes (w.alloc (.cells #[.int .i64 x.From, .int .i64 x.Seq, .int .i64 x.Next, .slice A0 n0 c0, .int .i64 x.Started] 58)) lo hi (.slice A0 n0 c0) (bytes.mkx q x.Body) from g0.below (below_box _ _))
  have hq2 : 0 ≤ q ∧ q + (bytes.tot x.Body : Nat) ≤ 1099511627776 := hq
  have HQ := Lib.hid hq2
  have HS := Lib.hid (show bytes.sz x.Body ≤ 67108864 from hs)
  show Calls Try.prog 47 #[reaV x (.slice A0 n0 c0), .int .i64 q] w (NPost (q + (bytes.tot x.Body : Nat)) w)
  obtain ⟨t, ht⟩ : ∃ t, q + (bytes.tot x.Body : Nat) = t := ⟨_, rfl⟩
  have hng : ¬ t < 0 := by omega
  have HT := Lib.hid ht
  rw [ht]
  clear h g0 hq hs hq2 ht
  go_enter Try.func47, Try.ntmps47
  go_wp2_with fail
  (with_reducible refine (heldByteS q P0.out HQ.out HS.out).mono ?_)
  rw [HT.out]
  rintro e w1 ⟨rfl, hb⟩
  have B1 := Lib.hid ((below_box w (.cells #[.int .i64 x.From, .int .i64 x.Seq, .int .i64 x.Next, .slice A0 n0 c0, .int .i64 x.Started] 58)).trans (hb.mono (by simp)))
  clear hb
  go_wp2_with fail
  go_ret
  exact ⟨rfl, B1.out⟩
set_option maxRecDepth 100000 in
set_option maxHeartbeats 4000000 in
theorem szReassemblyS {w : World} {lo hi : Nat} {v : Value} {xs : List Rea} (left : Int) (hleft : 0 ≤ left ∧ left ≤ 1048576) (h : RR rowRea w lo hi v xs) :
    Calls Try.prog 48 #[v, .int .i64 left] w (ZPost left (rowRea.sz xs) w) := by
  obtain ⟨A, n, c, rfl, hl, hnc, hcm⟩ := row_open h
  have HQ := Lib.hid h
  have HL := Lib.hid hl
  obtain ⟨h0, h1⟩ := hleft
  show Calls Try.prog 48 #[.slice A n c, .int .i64 left] w (ZPost left (xs.length + sumT rea.sz xs) w)
  rw [hl]
  obtain ⟨tt, htt⟩ : ∃ tt, sumT rea.sz xs = tt := ⟨_, rfl⟩
  rw [htt]
  have HTT := Lib.hid htt
  clear h hl htt
  have hd : IntKind.i64.wrap (left - n) = left - n := IntWalk.i64_in _ (by omega)
  by_cases hle : (n : Int) ≤ left
  · have hq : ¬ left - n < 0 := by omega
    go_enter Try.func48, Try.ntmps48
    go_wp2_with fail
    go_loopw [1, 5] (fun q i wr => ∃ (k : Nat) (r : Int), i = .int .i64 k ∧ q = .int .i64 r ∧ k ≤ n ∧ r = left - n - (sumT rea.sz (xs.take k) : Nat) ∧ 0 ≤ r ∧ Below w.heap.size w wr) (fun _ i _ => n - (intOf i).toNat)
    case atStart => exact ⟨0, _, rfl, rfl, by omega, by simp [sumT], by omega, Below.refl _ _⟩
    case round =>
      obtain ⟨k, r, rfl, rfl, hk, hr, hr0, hb⟩ := hrel
      have HB := Lib.hid hb
      have HR := Lib.hid (HQ.out.below hb)
      have HP := Lib.hid hr
      have HS := Lib.hid (show 0 ≤ r ∧ r ≤ 1048576 by omega)
      clear hb hr
      by_cases hlt : k < n
      · obtain ⟨b, off, y, u, hA, hy, hb1, hb2, hr, hu⟩ := row_at HR.out hlt
        obtain ⟨A0, n0, c0, rfl, g0⟩ := rea_r hu
        subst hA
        have HT := Lib.hid (take_snoc hy)
        have HU := Lib.hid (show RR rea wr lo hi (reaV y (.slice A0 n0 c0)) y from hu)
        have kc0 : wr.cell? ⟨b, off + k * 5, none⟩ = some (.int .i64 y.From) := hr 0 _ rfl
        have kc1 : wr.cell? ⟨b, off + k * 5 + 1, none⟩ = some (.int .i64 y.Seq) := hr 1 _ rfl
        have kc2 : wr.cell? ⟨b, off + k * 5 + 2, none⟩ = some (.int .i64 y.Next) := hr 2 _ rfl
        have kc3 : wr.cell? ⟨b, off + k * 5 + 3, none⟩ = some (.slice A0 n0 c0) := hr 3 _ rfl
        have kc4 : wr.cell? ⟨b, off + k * 5 + 4, none⟩ = some (.int .i64 y.Started) := hr 4 _ rfl
        have hlt2 : (k : Int) < n := by omega
        obtain ⟨sy, hsy⟩ : ∃ s, rea.sz y = s := ⟨_, rfl⟩
        have HBS := Lib.hid (show sumT rea.sz (xs.take (k + 1)) = sumT rea.sz (xs.take k) + sy by rw [HT.out, sumT_snoc, hsy])
        have HBL := Lib.hid (show sumT rea.sz (xs.take (k + 1)) ≤ tt by rw [← HTT.out]; exact sumT_take _ _ _)
        have HSY := Lib.hid hsy
        clear hy hu hr hsy g0
        go_wp2_with fail
        (with_reducible refine (szReassembly r HS.out HU.out).mono ?_)
        rintro e w2 hp
        obtain ⟨r2, rfl, hor, hb2⟩ := hp.parts
        rw [HSY.out] at hor
        have HB2 := Lib.hid (HB.out.trans (hb2.mono HB.out.size))
        clear hb2 hp
        rcases hor with ⟨hm, hlo⟩ | ⟨h2, hle2⟩
        · subst hm
          have HE := Lib.hid (show left < ((n + tt : Nat) : Int) by have a1 := HP.out; have a2 := HBS.out; have a3 := HBL.out; omega)
          clear hlo
          go_wp2_with fail
          go_ret
          exact ⟨-1, rfl, Or.inl ⟨rfl, HE.out⟩, HB2.out⟩
        · have hng : ¬ r2 < 0 := by omega
          have HH := Lib.hid h2
          clear h2 hle2
          have HR2 := Lib.hid (show r2 = left - n - (sumT rea.sz (xs.take (k + 1)) : Nat) by have a0 := HH.out; have a1 := HP.out; have a2 := HBS.out; omega)
          go_wp2_with fail
          go_roundw
          case rel => exact ⟨k + 1, r2, by go_num, rfl, by omega, HR2.out, by omega, HB2.out⟩
          case measure => simp [intOf]; omega
      · have hlt2 : ¬ (k : Int) < n := by omega
        obtain rfl : k = n := by omega
        have HF := Lib.hid (show r = left - ((k + tt : Nat) : Int) by have a1 := HP.out; rw [List.take_of_length_le (by rw [HL.out]; exact Nat.le_refl _), HTT.out] at a1; omega)
        have HG := Lib.hid (show ((k + tt : Nat) : Int) ≤ left by have := HF.out; omega)
        go_wp2_with fail
        go_ret
        exact ⟨r, rfl, Or.inr ⟨HF.out, HG.out⟩, HB.out⟩
  · have hq : left - n < 0 := by omega
    have HE := Lib.hid (show left < ((n + tt : Nat) : Int) by omega)
    go_enter Try.func48, Try.ntmps48
    go_wp2_with fail
    go_ret
    exact ⟨-1, rfl, Or.inl ⟨rfl, HE.out⟩, Below.refl _ _⟩
set_option maxRecDepth 100000 in
set_option maxHeartbeats 4000000 in
theorem toReassemblyS {w : World} {lo hi : Nat} {v : Value} {xs : List Rea} (h : RR rowRea w lo hi v xs) (hs : rowRea.sz xs ≤ 67108864) :
    Calls Try.prog 50 #[v] w (ToPost rowRea xs w) := by
  obtain ⟨i0, hi0, hz0, hz1, hz2⟩ := info_parts infoRea
  obtain ⟨A, n, c, rfl, hl, hnc, hcm⟩ := row_open h
  have hs9 : xs.length + sumT rea.sz xs ≤ 67108864 := hs
  have hmk := fun W => mq.run_makeS (P := Try.prog) 51 58 i0 _ 5 Try.underlying51 hi0 hz0 hz1 n (by rw [hz2]; omega) (by omega) W
  have HQ := Lib.hid h
  have HL := Lib.hid hl
  have HN := Lib.hid (show n ≤ 67108864 by omega)
  have HBD := Lib.hid (show ∀ y ∈ xs, rea.sz y ≤ 67108864 from fun y hy => by have := sumT_mem rea.sz hy; omega)
  clear h hz2 hz1 hz0 hi0 hs hs9 hl
  go_enter Try.func50, Try.ntmps50
  go_wp2_with fail
  go_loopw [4] (fun i wr => ∃ k : Nat, i = .int .i64 k ∧ k ≤ n ∧ Grow rea 58 wr w.heap.size n wr.heap.size (xs.take k) ∧ Below w.heap.size w wr) (fun i _ => n - (intOf i).toNat)
  case atStart => exact ⟨0, rfl, by omega, Grow.start _ _ _ (by have := HN.out; unfold maxLen; omega) (size_madeCells _ _), below_box _ _⟩
  case round =>
    obtain ⟨k, rfl, hk, hg, hb⟩ := hrel
    have HG := Lib.hid hg
    have HB := Lib.hid hb
    have HR := Lib.hid (HQ.out.below hb)
    clear hg hb
    by_cases hlt : k < n
    · obtain ⟨b, off, y, u, hA, hy, hb1, hb2, hr, hu⟩ := row_at HR.out hlt
      obtain ⟨A0, n0, c0, rfl, g0⟩ := rea_r hu
      subst hA
      have HT := Lib.hid (take_snoc hy)
      have HU := Lib.hid (show RR rea wr lo hi (reaV y (.slice A0 n0 c0)) y from hu)
      have kc0 : wr.cell? ⟨b, off + k * 5, none⟩ = some (.int .i64 y.From) := hr 0 _ rfl
      have kc1 : wr.cell? ⟨b, off + k * 5 + 1, none⟩ = some (.int .i64 y.Seq) := hr 1 _ rfl
      have kc2 : wr.cell? ⟨b, off + k * 5 + 2, none⟩ = some (.int .i64 y.Next) := hr 2 _ rfl
      have kc3 : wr.cell? ⟨b, off + k * 5 + 3, none⟩ = some (.slice A0 n0 c0) := hr 3 _ rfl
      have kc4 : wr.cell? ⟨b, off + k * 5 + 4, none⟩ = some (.int .i64 y.Started) := hr 4 _ rfl
      have hlt2 : (k : Int) < n := by omega
      have HSY := Lib.hid (HBD.out y (List.mem_of_getElem? hy))
      clear hy hu hr g0
      go_wp2_with fail
      (with_reducible refine (toReassembly HU.out HSY.out).mono ?_)
      rintro e w2 hp
      obtain ⟨u2, f2, rfl, ho, hb2⟩ := hp.parts
      clear hp
      obtain ⟨Ae0, ne0, ce0, fe0, rfl, ge0, hf2, hn2⟩ := rea_o ho
      have HO := Lib.hid ho
      have HG2 := Lib.hid (HG.out.below hb2)
      have HB2 := Lib.hid (HB.out.trans (hb2.mono HB.out.size))
      have TH := Lib.hid (show w2.there w.heap.size (k * 5) 5 from HG2.out.there (k := k) hlt)
      have HSZ := Lib.hid szRea
      have HON := Lib.hid (oneRea y.From y.Seq y.Next Ae0 ne0 ce0 y.Started)
      have HSB := Lib.hid HB.out.size
      clear ho hb2 ge0 hf2 hn2 kc0 kc1 kc2 kc3 kc4
      go_wp2_with ((refine mrw.list_storeAt w.heap.size (k * 5) #[.int .i64 y.From, .int .i64 y.Seq, .int .i64 y.Next, .slice Ae0 ne0 ce0, .int .i64 y.Started] TH.out HSZ.out HON.out ?_ ?_ ?_; (· rfl); (· rfl)))
      go_roundw
      case rel => exact ⟨k + 1, by go_num, by omega, by rw [HT.out]; exact HG2.out.put (by rw [List.length_take, HL.out]; omega) hlt HO.out HON.out rfl rfl (Nat.le_refl _), mrw.below_setCells _ _ _ HB2.out (Nat.le_refl _)⟩
      case measure => simp [intOf]; omega
    · have hlt2 : ¬ (k : Int) < n := by omega
      obtain rfl : k = n := by omega
      have HF := Lib.hid (show xs.take k = xs from List.take_of_length_le (by rw [HL.out]; exact Nat.le_refl _))
      go_wp2_with fail
      go_ret
      obtain ⟨fp, hd⟩ := HG.out.done (by rw [HF.out]; exact HL.out)
      rw [HF.out] at hd
      exact ⟨_, fp, rfl, hd, HB.out⟩
set_option maxRecDepth 100000 in
set_option maxHeartbeats 4000000 in
theorem eqReassemblyS {w : World} {lo hi lo2 hi2 : Nat} {v u : Value} {xs : List Rea} (h : RR rowRea w lo hi v xs) (h2 : RR rowRea w lo2 hi2 u xs) :
    Calls Try.prog 51 #[v, u] w (BPost true w) := by
  obtain ⟨A, n, c, rfl, hl, hnc, hcm⟩ := row_open h
  obtain ⟨A2, n2, c2, rfl, hl2, hnc2, hcm2⟩ := row_open h2
  obtain rfl : n = n2 := hl.symm.trans hl2
  have HQ := Lib.hid h
  have HP := Lib.hid h2
  clear h h2
  go_enter Try.func51, Try.ntmps51
  go_wp2_with fail
  go_loopw [5] (fun i wr => ∃ k : Nat, i = .int .i64 k ∧ k ≤ n ∧ Below w.heap.size w wr) (fun i _ => n - (intOf i).toNat)
  case atStart => exact ⟨0, rfl, by omega, Below.refl _ _⟩
  case round =>
    obtain ⟨k, rfl, hk, hb⟩ := hrel
    have HB := Lib.hid hb
    have HR := Lib.hid (HQ.out.below hb)
    have HS := Lib.hid (HP.out.below hb)
    clear hb
    by_cases hlt : k < n
    · obtain ⟨b, off, y, u, hA, hy, hb1, hb2, hr, hu⟩ := row_at HR.out hlt
      obtain ⟨A0, n0, c0, rfl, g0⟩ := rea_r hu
      obtain ⟨bb, offb, yb, ub, hAb, hyb, hb1b, hb2b, hrb, hub⟩ := row_at HS.out hlt
      obtain ⟨Ab0, nb0, cb0, rfl, gb0⟩ := rea_r hub
      obtain rfl : y = yb := Option.some.inj (hy.symm.trans hyb)
      subst hA hAb
      have hlt2 : (k : Int) < n := by omega
      have kc0 : wr.cell? ⟨b, off + k * 5, none⟩ = some (.int .i64 y.From) := hr 0 _ rfl
      have kc1 : wr.cell? ⟨b, off + k * 5 + 1, none⟩ = some (.int .i64 y.Seq) := hr 1 _ rfl
      have kc2 : wr.cell? ⟨b, off + k * 5 + 2, none⟩ = some (.int .i64 y.Next) := hr 2 _ rfl
      have kc3 : wr.cell? ⟨b, off + k * 5 + 3, none⟩ = some (.slice A0 n0 c0) := hr 3 _ rfl
      have kc4 : wr.cell? ⟨b, off + k * 5 + 4, none⟩ = some (.int .i64 y.Started) := hr 4 _ rfl
      have kcb0 : wr.cell? ⟨bb, offb + k * 5, none⟩ = some (.int .i64 y.From) := hrb 0 _ rfl
      have kcb1 : wr.cell? ⟨bb, offb + k * 5 + 1, none⟩ = some (.int .i64 y.Seq) := hrb 1 _ rfl
      have kcb2 : wr.cell? ⟨bb, offb + k * 5 + 2, none⟩ = some (.int .i64 y.Next) := hrb 2 _ rfl
      have kcb3 : wr.cell? ⟨bb, offb + k * 5 + 3, none⟩ = some (.slice Ab0 nb0 cb0) := hrb 3 _ rfl
      have kcb4 : wr.cell? ⟨bb, offb + k * 5 + 4, none⟩ = some (.int .i64 y.Started) := hrb 4 _ rfl
      have HU := Lib.hid (show RR rea wr lo hi (reaV y (.slice A0 n0 c0)) y from hu)
      have HUb := Lib.hid (show RR rea wr lo2 hi2 (reaV y (.slice Ab0 nb0 cb0)) y from hub)
      clear hu hub hy hyb hr hrb g0 gb0
      go_upto_region 6 with fail
      have d0 : ∀ m : Af wr, m.w.cell? ⟨b, off + k * 5, none⟩ = some (.int .i64 y.From) := fun m => by rw [m.below.cell (World.block_lt_of_cell? _ _ kc0)]; exact kc0
      have d1 : ∀ m : Af wr, m.w.cell? ⟨b, off + k * 5 + 1, none⟩ = some (.int .i64 y.Seq) := fun m => by rw [m.below.cell (World.block_lt_of_cell? _ _ kc1)]; exact kc1
      have d2 : ∀ m : Af wr, m.w.cell? ⟨b, off + k * 5 + 2, none⟩ = some (.int .i64 y.Next) := fun m => by rw [m.below.cell (World.block_lt_of_cell? _ _ kc2)]; exact kc2
      have d3 : ∀ m : Af wr, m.w.cell? ⟨b, off + k * 5 + 3, none⟩ = some (.slice A0 n0 c0) := fun m => by rw [m.below.cell (World.block_lt_of_cell? _ _ kc3)]; exact kc3
      have d4 : ∀ m : Af wr, m.w.cell? ⟨b, off + k * 5 + 4, none⟩ = some (.int .i64 y.Started) := fun m => by rw [m.below.cell (World.block_lt_of_cell? _ _ kc4)]; exact kc4
      have db0 : ∀ m : Af wr, m.w.cell? ⟨bb, offb + k * 5, none⟩ = some (.int .i64 y.From) := fun m => by rw [m.below.cell (World.block_lt_of_cell? _ _ kcb0)]; exact kcb0
      have db1 : ∀ m : Af wr, m.w.cell? ⟨bb, offb + k * 5 + 1, none⟩ = some (.int .i64 y.Seq) := fun m => by rw [m.below.cell (World.block_lt_of_cell? _ _ kcb1)]; exact kcb1
      have db2 : ∀ m : Af wr, m.w.cell? ⟨bb, offb + k * 5 + 2, none⟩ = some (.int .i64 y.Next) := fun m => by rw [m.below.cell (World.block_lt_of_cell? _ _ kcb2)]; exact kcb2
      have db3 : ∀ m : Af wr, m.w.cell? ⟨bb, offb + k * 5 + 3, none⟩ = some (.slice Ab0 nb0 cb0) := fun m => by rw [m.below.cell (World.block_lt_of_cell? _ _ kcb3)]; exact kcb3
      have db4 : ∀ m : Af wr, m.w.cell? ⟨bb, offb + k * 5 + 4, none⟩ = some (.int .i64 y.Started) := fun m => by rw [m.below.cell (World.block_lt_of_cell? _ _ kcb4)]; exact kcb4
      have q0 := Lib.hid (fun m => eqReassembly (HU.out.below m.below) (HUb.out.below m.below) : ∀ m : Af wr, Calls Try.prog 45 #[reaV y (.slice A0 n0 c0), reaV y (.slice Ab0 nb0 cb0)] m.w fun e w' => e = .returned (.bool true) ∧ Below m.w.heap.size m.w w')
      clear kc0 kc1 kc2 kc3 kc4 kcb0 kcb1 kcb2 kcb3 kcb4
      refine region_after (by kernel_rfl) (by kernel_rfl) ?_
      repeat (go_big_quiet_step ((go_at_call 45; with_reducible exact Af.call (q0.out _))))
      refine wpQuiet_nil ?_
      intro _ hw'
      obtain ⟨nq, hw''⟩ := hw'
      subst hw''
      clear d0 d1 d2 d3 d4 db0 db1 db2 db3 db4 q0
      obtain ⟨w5, hw5⟩ : ∃ w5, nq.w = w5 := ⟨_, rfl⟩
      have NB := Lib.hid nq.below
      rw [hw5] at NB
      (try rw [hw5])
      clear hw5
      have HB5 := Lib.hid (HB.out.trans (NB.out.mono HB.out.size))
      clear NB nq HB
      go_wp2_with fail
      go_roundw
      case rel => exact ⟨k + 1, by go_num, by omega, HB5.out⟩
      case measure => simp [intOf]; omega
    · have hlt2 : ¬ (k : Int) < n := by omega
      go_wp2_with fail
      go_ret
      exact ⟨rfl, HB.out⟩
set_option maxRecDepth 100000 in
set_option maxHeartbeats 4000000 in
theorem markReassemblyS {w : World} {lo hi : Nat} {fp : List Nat} {v : Value} {xs : List Rea} (q : Int) (h : OO rowRea w lo hi fp v xs) (hq : 0 ≤ q ∧ q + (rowRea.tot xs : Nat) ≤ 1099511627776) (hs : rowRea.sz xs ≤ 67108864) :
    Calls Try.prog 53 #[v, .int .i64 q] w (MkPost rowRea (rowRea.mkx q xs) (q + (rowRea.tot xs : Nat)) lo hi fp v w) := by
  obtain ⟨A, n, c, rfl, hl, hnc, hcm⟩ := row_open h.rd
  have HL := Lib.hid hl
  have hq9 : 0 ≤ q ∧ q + (sumT rea.tot xs : Nat) ≤ 1099511627776 := hq
  have HQ := Lib.hid hq9
  have hs9 : xs.length + sumT rea.sz xs ≤ 67108864 := hs
  have HBD := Lib.hid (show ∀ y ∈ xs, rea.sz y ≤ 67108864 from fun y hy => by have := sumT_mem rea.sz hy; omega)
  have KH := Lib.hid h.hi_
  have H0 := Lib.hid h
  show Calls Try.prog 53 #[.slice A n c, .int .i64 q] w (MkPost rowRea (mks rea.mkx rea.tot q xs) (q + (sumT rea.tot xs : Nat)) lo hi fp (.slice A n c) w)
  clear h hq hq9 hs hs9 hl
  go_enter Try.func53, Try.ntmps53
  go_wp2_with fail
  go_loopw [1, 5] (fun q2 i wr => ∃ j : Nat, i = .int .i64 j ∧ q2 = .int .i64 (q + (sumT rea.tot (xs.take j) : Nat)) ∧ j ≤ n ∧ OO rowRea wr lo hi fp (.slice A n c) (mks rea.mkx rea.tot q (xs.take j) ++ xs.drop j) ∧ KS fp w wr) (fun _ i _ => n - (intOf i).toNat)
  case atStart => exact ⟨0, rfl, by simp [sumT], by omega, by simpa [mks] using H0.out, KS.refl _ _⟩
  clear H0
  case round =>
    obtain ⟨j, rfl, rfl, hj, ho, hk⟩ := hrel
    obtain ⟨t, hq⟩ : ∃ t, q + (sumT rea.tot (xs.take j) : Nat) = t := ⟨_, rfl⟩
    have HTT := Lib.hid hq
    have HO := Lib.hid ho
    have K0 := Lib.hid hk
    have hb1 : 0 ≤ t ∧ t ≤ 1099511627776 := by have a1 := HQ.out; have a2 := sumT_take rea.tot xs j; omega
    rw [hq]
    clear ho hk hq
    by_cases hlt : j < n
    · have hlt2 : (j : Int) < n := by omega
      obtain ⟨x, hx⟩ : ∃ x, xs[j]? = some x := ⟨_, List.getElem?_eq_getElem (by rw [HL.out]; exact hlt)⟩
      have HX := Lib.hid hx
      have hx2 := at_mid (mk := rea.mkx) (tot := rea.tot) (q := q) hx
      have HSX := Lib.hid (HBD.out x (List.mem_of_getElem? hx))
      have hend : t + (rea.tot x : Nat) ≤ 1099511627776 := by have a1 := HQ.out; have a2 := sumT_take rea.tot xs (j + 1); rw [take_snoc hx, sumT_snoc] at a2; have a3 := HTT.out; omega
      have HND := Lib.hid hend
      obtain ⟨g, n1, cc1, l, r, u, f, e1, hlj, hsp, hole, hox, hfp, hnd, husz, huone⟩ := row_hole HO.out hx2
      injection e1 with e1 e2 e3
      subst e1 e2 e3
      obtain ⟨A0, n0, c0, f0, rfl, g0, hff, hnf⟩ := rea_o hox
      have HO0 := Lib.hid (show Hole rea 58 wr g n c l r [.int .i64 x.From, .int .i64 x.Seq, .int .i64 x.Next, .slice A0 n0 c0, .int .i64 x.Started] from hole)
      have HFP := Lib.hid hfp
      have HNF := Lib.hid hnd
      have AP := Lib.hid (hole_apart hfp hnd)
      have HIN := Lib.hid hox.inn
      have HALL := Lib.hid HO.out.inn
      have HHI := Lib.hid HO.out.hi_
      have HLJ := Lib.hid hlj
      have HSP := Lib.hid hsp
      have N0_0 := Lib.hid g0
      have HFF := Lib.hid hff
      have HNN := Lib.hid hnf
      clear hole hox hx hx2 hfp hnd husz huone hlj hsp HO hff hnf g0
      have kc0 : wr.cell? ⟨g, j * 5, none⟩ = some (.int .i64 x.From) := HO0.out.cell HLJ.out (i := 0) rfl
      have kc1 : wr.cell? ⟨g, j * 5 + 1, none⟩ = some (.int .i64 x.Seq) := HO0.out.cell HLJ.out (i := 1) rfl
      have kc2 : wr.cell? ⟨g, j * 5 + 2, none⟩ = some (.int .i64 x.Next) := HO0.out.cell HLJ.out (i := 2) rfl
      have kc3 : wr.cell? ⟨g, j * 5 + 3, none⟩ = some (.slice A0 n0 c0) := HO0.out.cell HLJ.out (i := 3) rfl
      have kc4 : wr.cell? ⟨g, j * 5 + 4, none⟩ = some (.int .i64 x.Started) := HO0.out.cell HLJ.out (i := 4) rfl
      have fz0 : wr.frozen? ⟨g, j * 5, none⟩ = false := HO0.out.free _
      have fz1 : wr.frozen? ⟨g, j * 5 + 1, none⟩ = false := HO0.out.free _
      have fz2 : wr.frozen? ⟨g, j * 5 + 2, none⟩ = false := HO0.out.free _
      have mt1 : IntKind.i64.wrap (t + 1) = t + 1 := IntWalk.i64_in _ (by omega)
      have mt2 : IntKind.i64.wrap (t + 2) = t + 2 := IntWalk.i64_in _ (by omega)
      have mt3 : IntKind.i64.wrap (t + 3) = t + 3 := IntWalk.i64_in _ (by omega)
      have st1 : t + 1 + 1 = t + 2 := by omega
      have st2 : t + 2 + 1 = t + 3 := by omega
      go_wp2_with fail
      clear kc0 kc1 kc2 kc3 kc4 fz0 fz1 fz2 mt1 mt2 mt3 st1 st2
      obtain ⟨wa0, hW⟩ : ∃ wy, ((wr.setCell ⟨g, j * 5, none⟩ (.int .i64 t)).setCell ⟨g, j * 5 + 1, none⟩ (.int .i64 (t + 1))).setCell ⟨g, j * 5 + 2, none⟩ (.int .i64 (t + 2)) = wy := ⟨_, rfl⟩
      rw [hW]
      have HO1 := Lib.hid (show Hole rea 58 wa0 g n c l r [.int .i64 t, .int .i64 (t + 1), .int .i64 (t + 2), .slice A0 n0 c0, .int .i64 x.Started] by rw [← hW]; exact (((HO0.out.set HLJ.out (i := 0) (by show 0 < 5; omega) (.int .i64 t)).set HLJ.out (i := 1) (by show 1 < 5; omega) (.int .i64 (t + 1))).set HLJ.out (i := 2) (by show 2 < 5; omega) (.int .i64 (t + 2))))
      have hks : KS [g] wr wa0 := by rw [← hW]; exact (((KS.refl [g] wr).trans (ks_set (List.mem_singleton.2 rfl) _ _)).trans (ks_set (List.mem_singleton.2 rfl) _ _)).trans (ks_set (List.mem_singleton.2 rfl) _ _)
      have K1 := Lib.hid (K0.out.trans (ks_more hks (fun b hb => by rw [List.mem_singleton.1 hb]; exact AP.out.2.2.2.1)))
      have N0_1 := Lib.hid (N0_0.out.ks hks (fun b hb hg => AP.out.1 (by have e9 := List.mem_singleton.1 hg; rw [← e9]; rw [HFF.out]; simp [hb])))
      clear hW hks HO0 K0 N0_0
      have HK0 := Lib.hid (show 0 ≤ (t + 3) ∧ (t + 3) + (bytes.tot x.Body : Nat) ≤ 1099511627776 by have a1 := HND.out; have a2 : rea.tot x = 4 + bytes.tot x.Body := rfl; omega)
      have HZ0 := Lib.hid (show bytes.sz x.Body ≤ 67108864 by have a1 := HSX.out; have a2 : rea.sz x = bytes.sz x.Body := rfl; omega)
      (with_reducible refine (markByteS (t + 3) N0_1.out HK0.out HZ0.out).mono ?_)
      rintro e wb1 hp
      obtain ⟨rfl, ho, hk⟩ := hp.parts
      have HO2 := Lib.hid (HO1.out.ks hk (fun hb => AP.out.1 (by rw [HFF.out]; simp [hb])) (fun e he b hb hb2 => AP.out.2.1 e he b hb (by rw [HFF.out]; simp [hb2])))
      have K2 := Lib.hid (K1.out.trans (ks_more hk (fun b hb => AP.out.2.2.1 b (by rw [HFF.out]; simp [hb]))))
      have N0_2 := Lib.hid ho
      clear hp ho hk HO1 K1 N0_1
      obtain ⟨t0, ht0⟩ : ∃ y : Int, (t + 3) + (bytes.tot x.Body : Nat) = y := ⟨_, rfl⟩
      have Ht0 := Lib.hid ht0
      have hbt0 : 0 ≤ t0 ∧ t0 ≤ 1099511627776 := by have a1 := HK0.out; omega
      rw [ht0]
      clear ht0
      have kc0 : wb1.cell? ⟨g, j * 5, none⟩ = some (.int .i64 t) := HO2.out.cell HLJ.out (i := 0) rfl
      have kc1 : wb1.cell? ⟨g, j * 5 + 1, none⟩ = some (.int .i64 (t + 1)) := HO2.out.cell HLJ.out (i := 1) rfl
      have kc2 : wb1.cell? ⟨g, j * 5 + 2, none⟩ = some (.int .i64 (t + 2)) := HO2.out.cell HLJ.out (i := 2) rfl
      have kc3 : wb1.cell? ⟨g, j * 5 + 3, none⟩ = some (.slice A0 n0 c0) := HO2.out.cell HLJ.out (i := 3) rfl
      have kc4 : wb1.cell? ⟨g, j * 5 + 4, none⟩ = some (.int .i64 x.Started) := HO2.out.cell HLJ.out (i := 4) rfl
      have fz4 : wb1.frozen? ⟨g, j * 5 + 4, none⟩ = false := HO2.out.free _
      have mt01 : IntKind.i64.wrap (t0 + 1) = t0 + 1 := IntWalk.i64_in _ (by omega)
      go_wp2_with fail
      clear kc0 kc1 kc2 kc3 kc4 fz4 mt01
      obtain ⟨wa2, hW⟩ : ∃ wy, wb1.setCell ⟨g, j * 5 + 4, none⟩ (.int .i64 t0) = wy := ⟨_, rfl⟩
      rw [hW]
      have HO3 := Lib.hid (show Hole rea 58 wa2 g n c l r [.int .i64 t, .int .i64 (t + 1), .int .i64 (t + 2), .slice A0 n0 c0, .int .i64 t0] by rw [← hW]; exact (HO2.out.set HLJ.out (i := 4) (by show 4 < 5; omega) (.int .i64 t0)))
      have hks : KS [g] wb1 wa2 := by rw [← hW]; exact (KS.refl [g] wb1).trans (ks_set (List.mem_singleton.2 rfl) _ _)
      have K3 := Lib.hid (K2.out.trans (ks_more hks (fun b hb => by rw [List.mem_singleton.1 hb]; exact AP.out.2.2.2.1)))
      have N0_3 := Lib.hid (N0_2.out.ks hks (fun b hb hg => AP.out.1 (by have e9 := List.mem_singleton.1 hg; rw [← e9]; rw [HFF.out]; simp [hb])))
      clear hW hks HO2 K2 N0_2
      have HX1 := Lib.hid (take_snoc HX.out)
      have HEND := Lib.hid (show t0 + 1 = q + (sumT rea.tot (xs.take (j + 1)) : Nat) by rw [HX1.out, sumT_snoc]; have a1 := HTT.out; have a2 : rea.tot x = 4 + bytes.tot x.Body := rfl; have b0 := Ht0.out; omega)
      have HCL := Lib.hid (show OO rowRea wa2 lo hi fp (.slice (some ⟨g, 0, none⟩) n c) (l.map (·.x) ++ rea.mkx t x :: r.map (·.x)) by
          have hm : rea.mkx t x = (⟨t, (t + 1), (t + 2), bytes.mkx (t + 3) x.Body, t0⟩ : Rea) := by rw [← Ht0.out]; rfl
          rw [hm]
          have ho := rea_mk (x := (⟨t, (t + 1), (t + 2), bytes.mkx (t + 3) x.Body, t0⟩ : Rea)) N0_3.out (by rw [← HFF.out]; exact HNN.out)
          rw [← HFF.out] at ho
          exact Hole.close (u := reaV (⟨t, (t + 1), (t + 2), bytes.mkx (t + 3) x.Body, t0⟩ : Rea) (.slice A0 n0 c0)) HO3.out ho.1 (oneRea _ _ _ _ _ _ _) HFP.out HNF.out HALL.out (by have a1 := HHI.out; have a2 := K3.out.size; have a3 := KH.out; omega))
      go_roundw
      case rel => exact ⟨j + 1, by go_num, by rw [HEND.out], by omega, by rw [← round_mk HX.out (show (l.map (·.x)).length = j by rw [List.length_map]; exact HLJ.out) HSP.out, HTT.out]; exact HCL.out, K3.out⟩
      case measure => simp [intOf]; omega
    · have hlt2 : ¬ (j : Int) < n := by omega
      obtain rfl : j = n := by omega
      have HF := Lib.hid (show xs.take j = xs from List.take_of_length_le (by rw [HL.out]; exact Nat.le_refl _))
      have HG := Lib.hid (show t = q + (sumT rea.tot xs : Nat) by rw [← HTT.out, HF.out])
      have HE := Lib.hid (show OO rowRea wr lo hi fp (.slice A j c) (mks rea.mkx rea.tot q xs) by have hh := HO.out; rw [HF.out, List.drop_of_length_le (by rw [HL.out]; exact Nat.le_refl _), List.append_nil] at hh; exact hh)
      clear HO
      go_wp2_with fail
      go_ret
      exact ⟨by rw [← HG.out]; rfl, HE.out, K0.out⟩
set_option maxRecDepth 100000 in
set_option maxHeartbeats 4000000 in
theorem heldReassemblyS {w : World} {lo hi : Nat} {v : Value} {xs : List Rea} (q : Int) (h : RR rowRea w lo hi v (rowRea.mkx q xs)) (hq : 0 ≤ q ∧ q + (rowRea.tot xs : Nat) ≤ 1099511627776) (hs : rowRea.sz xs ≤ 67108864) :
    Calls Try.prog 55 #[v, .int .i64 q] w (NPost (q + (rowRea.tot xs : Nat)) w) := by
  obtain ⟨A, n, c, rfl, hl, hnc, hcm⟩ := row_open h
  have hl2 : xs.length = n := by rw [← hl]; exact (mks_len rea.mkx rea.tot xs q).symm
  have HL := Lib.hid hl2
  have hq9 : 0 ≤ q ∧ q + (sumT rea.tot xs : Nat) ≤ 1099511627776 := hq
  have HQ := Lib.hid hq9
  have hs9 : xs.length + sumT rea.sz xs ≤ 67108864 := hs
  have HBD := Lib.hid (show ∀ y ∈ xs, rea.sz y ≤ 67108864 from fun y hy => by have := sumT_mem rea.sz hy; omega)
  have H0 := Lib.hid h
  show Calls Try.prog 55 #[.slice A n c, .int .i64 q] w (NPost (q + (sumT rea.tot xs : Nat)) w)
  clear h hq hq9 hs hs9 hl hl2
  go_enter Try.func55, Try.ntmps55
  go_wp2_with fail
  go_loopw [1, 5] (fun q2 i wr => ∃ j : Nat, i = .int .i64 j ∧ q2 = .int .i64 (q + (sumT rea.tot (xs.take j) : Nat)) ∧ j ≤ n ∧ Below w.heap.size w wr) (fun _ i _ => n - (intOf i).toNat)
  case atStart => exact ⟨0, rfl, by simp [sumT], by omega, Below.refl _ _⟩
  case round =>
    obtain ⟨j, rfl, rfl, hj, hb⟩ := hrel
    obtain ⟨t, hq⟩ : ∃ t, q + (sumT rea.tot (xs.take j) : Nat) = t := ⟨_, rfl⟩
    have HTT := Lib.hid hq
    have HB := Lib.hid hb
    have HR := Lib.hid (H0.out.below hb)
    have hb1 : 0 ≤ t ∧ t ≤ 1099511627776 := by have a1 := HQ.out; have a2 := sumT_take rea.tot xs j; omega
    rw [hq]
    clear hb hq
    by_cases hlt : j < n
    · have hlt2 : (j : Int) < n := by omega
      obtain ⟨x, hx⟩ : ∃ x, xs[j]? = some x := ⟨_, List.getElem?_eq_getElem (by rw [HL.out]; exact hlt)⟩
      have HX := Lib.hid hx
      have HSX := Lib.hid (HBD.out x (List.mem_of_getElem? hx))
      have hend : t + (rea.tot x : Nat) ≤ 1099511627776 := by have a1 := HQ.out; have a2 := sumT_take rea.tot xs (j + 1); rw [take_snoc hx, sumT_snoc] at a2; have a3 := HTT.out; omega
      have HND := Lib.hid hend
      obtain ⟨b, off, y, u, hA, hy, hb1_, hb2_, hr, hu⟩ := row_at HR.out hlt
      obtain rfl : y = rea.mkx t x := by have hy : (mks rea.mkx rea.tot q xs)[j]? = some y := hy; rw [mks_at rea.mkx rea.tot hx, HTT.out] at hy; exact (Option.some.inj hy).symm
      obtain ⟨A0, n0, c0, rfl, g0⟩ := rea_r hu
      subst hA
      have kc0 : wr.cell? ⟨b, off + j * 5, none⟩ = some (.int .i64 t) := hr 0 _ rfl
      have kc1 : wr.cell? ⟨b, off + j * 5 + 1, none⟩ = some (.int .i64 (t + 1)) := hr 1 _ rfl
      have kc2 : wr.cell? ⟨b, off + j * 5 + 2, none⟩ = some (.int .i64 (t + 2)) := hr 2 _ rfl
      have kc3 : wr.cell? ⟨b, off + j * 5 + 3, none⟩ = some (.slice A0 n0 c0) := hr 3 _ rfl
      have kc4 : wr.cell? ⟨b, off + j * 5 + 4, none⟩ = some (.int .i64 (t + 3 + (bytes.tot x.Body : Nat))) := hr 4 _ rfl
      have P0 := Lib.hid g0
      obtain ⟨t0, ht0⟩ : ∃ y : Int, t + 3 + (bytes.tot x.Body : Nat) = y := ⟨_, rfl⟩
      rw [ht0] at kc4
      have Ht0 := Lib.hid ht0
      have HK0 := Lib.hid (show 0 ≤ t + 3 ∧ t + 3 + (bytes.tot x.Body : Nat) ≤ 1099511627776 by have a1 := HND.out; have a2 : rea.tot x = 4 + bytes.tot x.Body := rfl; omega)
      have HZ0 := Lib.hid (show bytes.sz x.Body ≤ 67108864 by have a1 := HSX.out; have a2 : rea.sz x = bytes.sz x.Body := rfl; omega)
      have hbt0 : 0 ≤ t0 ∧ t0 ≤ 1099511627776 := by have a1 := HK0.out; omega
      clear ht0
      clear hu hy hr g0 hx
      have mt1 : IntKind.i64.wrap (t + 1) = t + 1 := IntWalk.i64_in _ (by omega)
      have mt2 : IntKind.i64.wrap (t + 2) = t + 2 := IntWalk.i64_in _ (by omega)
      have mt3 : IntKind.i64.wrap (t + 3) = t + 3 := IntWalk.i64_in _ (by omega)
      have st1 : t + 1 + 1 = t + 2 := by omega
      have st2 : t + 2 + 1 = t + 3 := by omega
      go_wp2_with fail
      (with_reducible refine (heldByteS (t + 3) P0.out HK0.out HZ0.out).mono ?_)
      rw [Ht0.out]
      rintro e wh0 ⟨rfl, hb⟩
      replace kc0 := (hb.cell (World.block_lt_of_cell? _ _ kc0)).trans kc0
      replace kc1 := (hb.cell (World.block_lt_of_cell? _ _ kc1)).trans kc1
      replace kc2 := (hb.cell (World.block_lt_of_cell? _ _ kc2)).trans kc2
      replace kc3 := (hb.cell (World.block_lt_of_cell? _ _ kc3)).trans kc3
      replace kc4 := (hb.cell (World.block_lt_of_cell? _ _ kc4)).trans kc4
      have P0 := Lib.hid (P0.out.below hb)
      have HB0 := Lib.hid (HB.out.trans (hb.mono HB.out.size))
      clear hb HB mt1 mt2 mt3 st1 st2
      have mt01 : IntKind.i64.wrap (t0 + 1) = t0 + 1 := IntWalk.i64_in _ (by omega)
      have hng1 : ¬ t0 < 0 := by omega
      go_wp2_with fail
      have HEND := Lib.hid (show t0 + 1 = q + (sumT rea.tot (xs.take (j + 1)) : Nat) by rw [take_snoc HX.out, sumT_snoc]; have a1 := HTT.out; have a2 : rea.tot x = 4 + bytes.tot x.Body := rfl; have b0 := Ht0.out; omega)
      go_roundw
      case rel => exact ⟨j + 1, by go_num, by rw [HEND.out], by omega, HB0.out⟩
      case measure => simp [intOf]; omega
    · have hlt2 : ¬ (j : Int) < n := by omega
      obtain rfl : j = n := by omega
      have HF := Lib.hid (show xs.take j = xs from List.take_of_length_le (by rw [HL.out]; exact Nat.le_refl _))
      have HG := Lib.hid (show t = q + (sumT rea.tot xs : Nat) by rw [← HTT.out, HF.out])
      go_wp2_with fail
      go_ret
      exact ⟨by rw [← HG.out]; rfl, HB.out⟩
end Go.Proofs.Ytjmenbpalihnnaa.ux
