/- The harness over numbered frames, slices of them and reorder buffers. Condition: sizes up to 2^26. -/
import Derived.Test.YtmmhleobgpgliaaUs22
import Derived.Deep.QuietTactic
import Derived.Test.YtmmhleobgpgliaaQh1
namespace Go.Proofs.Ytmmhleobgpgliaa.ux
open Go.RowKit sl harn bx stw
set_option linter.unusedVariables false
set_option linter.unusedSimpArgs false

theorem infoNf : (Try.prog.info? 85).map (fun i => (i.zero, i.size, i.bytes)) = some (some (.agg #[.int .i64 0, .slice none 0 0]), 2, 32) := by kernel_rfl
theorem szLNf : (Try.prog.info? 113).map (·.size) = some 2 := by kernel_rfl
set_option maxRecDepth 100000 in
set_option maxHeartbeats 4000000 in
theorem szNumberedFrame {w : World} {lo hi : Nat} {v : Value} {x : Nf} (left : Int) (hl : 0 ≤ left ∧ left ≤ 1048576) (h : RR nf w lo hi v x) :
    Calls Try.prog 99 #[v, .int .i64 left] w (ZPost left (nf.sz x) w) := by
  have LH := Lib.hid h.hi_
  obtain ⟨A0, n0, c0, rfl, g0⟩ := nf_r h
  show Calls Try.prog 99 #[nfV x (.slice A0 n0 c0), .int .i64 left] w (ZPost left (bytes.sz x.Body) w)
  have P0W := Lib.hid g0
  have LL0 := Lib.hid hl
  clear h hl g0
  obtain ⟨s0, hs0⟩ : ∃ s, bytes.sz x.Body = s := ⟨_, rfl⟩
  rw [hs0]
  have HS0 := Lib.hid hs0
  clear hs0
  go_enter Try.func99, Try.ntmps99
  go_wp2_with fail
  obtain ⟨w0, hW⟩ : ∃ w0, w.alloc (.cells #[.int .i64 x.Seq, .slice A0 n0 c0] 113) = w0 := ⟨_, rfl⟩
  rw [hW]
  have B0 := Lib.hid (show Below w.heap.size w w0 by rw [← hW]; exact (Below.refl _ _).alloc (by simp <;> omega) _)
  have X0 := Lib.hid (show Bx 113 w0 (w.heap.size) #[.int .i64 x.Seq, .slice A0 n0 c0] by
      rw [← hW]
      have hh := Bx.made 113 w #[.int .i64 x.Seq, .slice A0 n0 c0]
      exact hh)
  have P00 := Lib.hid (show RR bytes w0 lo hi (.slice A0 n0 c0) x.Body by rw [← hW]; exact (P0W.out.below (below_box _ _)))
  clear hW
  have LTX := Lib.hid X0.out.lt
  (with_reducible refine (szByteS left LL0.out P00.out).mono ?_)
  rintro e w1 hp
  obtain ⟨r0, rfl, hor, hb⟩ := hp.parts
  rw [HS0.out] at hor
  clear hp
  have SS1 := Lib.hid hb.size
  have B1 := Lib.hid (B0.out.trans (hb.mono B0.out.size))
  have X1 := Lib.hid (X0.out.below hb)
  have P01 := Lib.hid (P00.out.below hb)
  clear hb B0 X0 P00
  rcases hor with ⟨hm, hlo⟩ | ⟨hr, hle⟩
  · subst hm
    have HLO := Lib.hid hlo
    clear hlo
    go_wp2_with fail
    go_ret
    exact ⟨-1, rfl, .inl ⟨rfl, by  have q9 := HLO.out; omega⟩, B1.out⟩
  · have HR0 := Lib.hid hr
    have HE0 := Lib.hid hle
    have hng : ¬ r0 < 0 := by omega
    have LL1 := Lib.hid (show 0 ≤ r0 ∧ r0 ≤ 1048576 by have q9 := LL0.out; omega)
    clear hr hle
    have cX0 : w1.cell? ⟨w.heap.size, 0, none⟩ = some (.int .i64 x.Seq) := X1.out.cell 0
    have cX1 : w1.cell? ⟨w.heap.size, 1, none⟩ = some (.slice A0 n0 c0) := X1.out.cell 1
    go_wp2_with fail
    clear cX0 cX1
    go_ret
    exact ⟨r0, rfl, .inr ⟨by  have q0 := HR0.out; have p0 := HE0.out; omega, by  have q0 := HR0.out; have p0 := HE0.out; omega⟩, B1.out⟩
set_option maxRecDepth 100000 in
set_option maxHeartbeats 4000000 in
theorem toNumberedFrame {w : World} {lo hi : Nat} {v : Value} {x : Nf} (h : RR nf w lo hi v x) (hs : nf.sz x ≤ 67108864) :
    Calls Try.prog 100 #[v] w (ToPost nf x w) := by
  have LH := Lib.hid h.hi_
  obtain ⟨A0, n0, c0, rfl, g0⟩ := nf_r h
  have P0W := Lib.hid g0
  have hs9 : bytes.sz x.Body ≤ 67108864 := hs
  have HS0 := Lib.hid (show bytes.sz x.Body ≤ 67108864 by omega)
  clear hs9
  clear h hs g0
  go_enter Try.func100, Try.ntmps100
  go_upto_region 2 with fail
  obtain ⟨w0, hW⟩ : ∃ w0, ((w.alloc (.cells #[.int .i64 x.Seq, .slice A0 n0 c0] 113)).alloc (.cells #[.int .i64 0, .slice none 0 0] 85)).alloc (.cells #[.int .i64 0, .slice none 0 0] 85) = w0 := ⟨_, rfl⟩
  rw [hW]
  have B0 := Lib.hid (show Below w.heap.size w w0 by rw [← hW]; exact (((Below.refl _ _).alloc (by simp <;> omega) _).alloc (by simp <;> omega) _).alloc (by simp <;> omega) _)
  have X0 := Lib.hid (show Bx 113 w0 (w.heap.size) #[.int .i64 x.Seq, .slice A0 n0 c0] by
      rw [← hW]
      have hh := Bx.made 113 w #[.int .i64 x.Seq, .slice A0 n0 c0]
      exact ((hh.below (below_box _ _)).below (below_box _ _)))
  have Z0 := Lib.hid (show Bx 85 w0 (w.heap.size + 1) #[.int .i64 0, .slice none 0 0] by
      rw [← hW]
      have hh : Bx 85 ((w.alloc (.cells #[.int .i64 x.Seq, .slice A0 n0 c0] 113)).alloc (.cells #[.int .i64 0, .slice none 0 0] 85)) (w.heap.size + 1) #[.int .i64 0, .slice none 0 0] := by have hh := Bx.made 85 (w.alloc (.cells #[.int .i64 x.Seq, .slice A0 n0 c0] 113)) #[.int .i64 0, .slice none 0 0]; simpa using hh
      exact (hh.below (below_box _ _)))
  have O0 := Lib.hid (show Bx 85 w0 (w.heap.size + 1 + 1) #[.int .i64 0, .slice none 0 0] by
      rw [← hW]
      have hh : Bx 85 (((w.alloc (.cells #[.int .i64 x.Seq, .slice A0 n0 c0] 113)).alloc (.cells #[.int .i64 0, .slice none 0 0] 85)).alloc (.cells #[.int .i64 0, .slice none 0 0] 85)) (w.heap.size + 1 + 1) #[.int .i64 0, .slice none 0 0] := by have hh := Bx.made 85 ((w.alloc (.cells #[.int .i64 x.Seq, .slice A0 n0 c0] 113)).alloc (.cells #[.int .i64 0, .slice none 0 0] 85)) #[.int .i64 0, .slice none 0 0]; simpa using hh
      exact hh)
  have P00 := Lib.hid (show RR bytes w0 lo hi (.slice A0 n0 c0) x.Body by rw [← hW]; exact (((P0W.out.below (below_box _ _)).below (below_box _ _)).below (below_box _ _)))
  clear hW
  have LTX := Lib.hid X0.out.lt
  have LTZ := Lib.hid Z0.out.lt
  have LTO := Lib.hid O0.out.lt
  have cX0 : w0.cell? ⟨w.heap.size, 0, none⟩ = some (.int .i64 x.Seq) := X0.out.cell 0
  have cX1 : w0.cell? ⟨w.heap.size, 1, none⟩ = some (.slice A0 n0 c0) := X0.out.cell 1
  have cO0 : w0.cell? ⟨w.heap.size + 1 + 1, 0, none⟩ = some (.int .i64 0) := O0.out.cell 0
  have cO1 : w0.cell? ⟨w.heap.size + 1 + 1, 1, none⟩ = some (.slice none 0 0) := O0.out.cell 1
  have fO0 : w0.frozen? ⟨w.heap.size + 1 + 1, 0, none⟩ = false := O0.out.free 0
  have fO1 : w0.frozen? ⟨w.heap.size + 1 + 1, 1, none⟩ = false := O0.out.free 1
  go_wp2_with fail
  clear cX0 cX1 cO0 cO1 fO0 fO1
  have hWW : (w0.setCell ⟨w.heap.size + 1 + 1, 0, none⟩ (.int .i64 x.Seq)) = (w0.setCell ⟨w.heap.size + 1 + 1, 0, none⟩ (.int .i64 x.Seq)) := rfl
  obtain ⟨w1, hW⟩ : ∃ wy, (w0.setCell ⟨w.heap.size + 1 + 1, 0, none⟩ (.int .i64 x.Seq)) = wy := ⟨_, rfl⟩
  rw [hW]
  clear hWW
  have B1 := Lib.hid (show Below w.heap.size w w1 by rw [← hW]; exact (B0.out.setCell (p := ⟨w.heap.size + 1 + 1, 0, none⟩) (by have hs0 := LTX.out; have hs1 := LTZ.out; have hs2 := LTO.out; have hs3 := LH.out; first | omega | (simp <;> omega)) _))
  have X1 := Lib.hid (show Bx 113 w1 (w.heap.size) #[.int .i64 x.Seq, .slice A0 n0 c0] by rw [← hW]; exact (X0.out.other (by have hs0 := LTX.out; have hs1 := LTZ.out; have hs2 := LTO.out; have hs3 := LH.out; first | omega | (simp <;> omega)) _ _))
  have Z1 := Lib.hid (show Bx 85 w1 (w.heap.size + 1) #[.int .i64 0, .slice none 0 0] by rw [← hW]; exact (Z0.out.other (by have hs0 := LTX.out; have hs1 := LTZ.out; have hs2 := LTO.out; have hs3 := LH.out; first | omega | (simp <;> omega)) _ _))
  have O1 := Lib.hid (show Bx 85 w1 (w.heap.size + 1 + 1) #[.int .i64 x.Seq, .slice none 0 0] by rw [← hW]; exact (O0.out.set 0 _))
  have P01 := Lib.hid (show RR bytes w1 lo hi (.slice A0 n0 c0) x.Body by rw [← hW]; exact (P00.out.same (by simp [World.setCell]) fun b h1 h2 => by rw [Below.heap_setCell _ _ _ _ (by have hs0 := LTX.out; have hs1 := LTZ.out; have hs2 := LTO.out; have hs3 := LH.out; first | omega | (simp <;> omega))]))
  clear hW B0 X0 Z0 O0 P00
  have SP1 := Lib.hid O1.out.lt
  (with_reducible refine (toByteS P01.out HS0.out).mono ?_)
  rintro e w2 hp
  obtain ⟨u0, f0, rfl, ho, hb⟩ := hp.parts
  obtain ⟨Ab0, nb0, cb0, rfl⟩ := bytes_slo ho.1
  clear hp
  have SS2 := Lib.hid hb.size
  have B2 := Lib.hid (B1.out.trans (hb.mono B1.out.size))
  have X2 := Lib.hid (X1.out.below hb)
  have Z2 := Lib.hid (Z1.out.below hb)
  have O2 := Lib.hid (O1.out.below hb)
  have P02 := Lib.hid (P01.out.below hb)
  clear hb B1 X1 Z1 O1 P01
  have N02 := Lib.hid ho
  clear ho
  have cX0 : w2.cell? ⟨w.heap.size, 0, none⟩ = some (.int .i64 x.Seq) := X2.out.cell 0
  have cX1 : w2.cell? ⟨w.heap.size, 1, none⟩ = some (.slice A0 n0 c0) := X2.out.cell 1
  have cO0 : w2.cell? ⟨w.heap.size + 1 + 1, 0, none⟩ = some (.int .i64 x.Seq) := O2.out.cell 0
  have cO1 : w2.cell? ⟨w.heap.size + 1 + 1, 1, none⟩ = some (.slice none 0 0) := O2.out.cell 1
  have fO0 : w2.frozen? ⟨w.heap.size + 1 + 1, 0, none⟩ = false := O2.out.free 0
  have fO1 : w2.frozen? ⟨w.heap.size + 1 + 1, 1, none⟩ = false := O2.out.free 1
  go_upto_region 4 with fail
  clear cX0 cX1 cO0 cO1 fO0 fO1
  have hWW : (w2.setCell ⟨w.heap.size + 1 + 1, 1, none⟩ (.slice Ab0 nb0 cb0)) = (w2.setCell ⟨w.heap.size + 1 + 1, 1, none⟩ (.slice Ab0 nb0 cb0)) := rfl
  obtain ⟨w3, hW⟩ : ∃ wy, (w2.setCell ⟨w.heap.size + 1 + 1, 1, none⟩ (.slice Ab0 nb0 cb0)) = wy := ⟨_, rfl⟩
  rw [hW]
  clear hWW
  have B3 := Lib.hid (show Below w.heap.size w w3 by rw [← hW]; exact (B2.out.setCell (p := ⟨w.heap.size + 1 + 1, 1, none⟩) (by have hs0 := LTX.out; have hs1 := LTZ.out; have hs2 := LTO.out; have hs3 := LH.out; have hs4 := SP1.out; have hs5 := SS2.out; first | omega | (simp <;> omega)) _))
  have X3 := Lib.hid (show Bx 113 w3 (w.heap.size) #[.int .i64 x.Seq, .slice A0 n0 c0] by rw [← hW]; exact (X2.out.other (by have hs0 := LTX.out; have hs1 := LTZ.out; have hs2 := LTO.out; have hs3 := LH.out; have hs4 := SP1.out; have hs5 := SS2.out; first | omega | (simp <;> omega)) _ _))
  have Z3 := Lib.hid (show Bx 85 w3 (w.heap.size + 1) #[.int .i64 0, .slice none 0 0] by rw [← hW]; exact (Z2.out.other (by have hs0 := LTX.out; have hs1 := LTZ.out; have hs2 := LTO.out; have hs3 := LH.out; have hs4 := SP1.out; have hs5 := SS2.out; first | omega | (simp <;> omega)) _ _))
  have O3 := Lib.hid (show Bx 85 w3 (w.heap.size + 1 + 1) #[.int .i64 x.Seq, .slice Ab0 nb0 cb0] by rw [← hW]; exact (O2.out.set 1 _))
  have P03 := Lib.hid (show RR bytes w3 lo hi (.slice A0 n0 c0) x.Body by rw [← hW]; exact (P02.out.same (by simp [World.setCell]) fun b h1 h2 => by rw [Below.heap_setCell _ _ _ _ (by have hs0 := LTX.out; have hs1 := LTZ.out; have hs2 := LTO.out; have hs3 := LH.out; have hs4 := SP1.out; have hs5 := SS2.out; first | omega | (simp <;> omega))]))
  have N03 := Lib.hid (show OO bytes w3 w1.heap.size w2.heap.size f0 (.slice Ab0 nb0 cb0) x.Body by rw [← hW]; exact (N02.out.same (by simp [World.setCell]) fun b h1 h2 => by rw [Below.heap_setCell _ _ _ _ (by have hs0 := LTX.out; have hs1 := LTZ.out; have hs2 := LTO.out; have hs3 := LH.out; have hs4 := SP1.out; have hs5 := SS2.out; first | omega | (simp <;> omega))]))
  clear hW B2 X2 Z2 O2 P02 N02
  go_wp2_with (first | (refine stw.list_load rfl 85 _ rfl (w.heap.size + 1 + 1) rfl 85 _ O3.out Try.underlying85 rfl szNf ?_) | (refine stw.list_store rfl 85 _ _ rfl (w.heap.size + 1) #[.int .i64 x.Seq, .slice Ab0 nb0 cb0] rfl rfl 85 _ Z3.out rfl szNf (oneNf _ _ _ _) ?_; intro wz4 hz))
  have B4 := Lib.hid (hz.on B3.out (by have hs0 := LTX.out; have hs1 := LTZ.out; have hs2 := LTO.out; have hs3 := LH.out; have hs4 := SP1.out; have hs5 := SS2.out; first | omega | (simp <;> omega)))
  have X4 := Lib.hid (hz.keep X3.out (by have hs0 := LTX.out; have hs1 := LTZ.out; have hs2 := LTO.out; have hs3 := LH.out; have hs4 := SP1.out; have hs5 := SS2.out; first | omega | (simp <;> omega)))
  have Z4 := Lib.hid (hz.box)
  have O4 := Lib.hid (hz.keep O3.out (by have hs0 := LTX.out; have hs1 := LTZ.out; have hs2 := LTO.out; have hs3 := LH.out; have hs4 := SP1.out; have hs5 := SS2.out; first | omega | (simp <;> omega)))
  have P04 := Lib.hid (P03.out.same hz.below.size fun b h1 h2 => hz.other b (by have hs0 := LTX.out; have hs1 := LTZ.out; have hs2 := LTO.out; have hs3 := LH.out; have hs4 := SP1.out; have hs5 := SS2.out; first | omega | (simp <;> omega)))
  have N04 := Lib.hid (N03.out.same hz.below.size fun b h1 h2 => hz.other b (by have hs0 := LTX.out; have hs1 := LTZ.out; have hs2 := LTO.out; have hs3 := LH.out; have hs4 := SP1.out; have hs5 := SS2.out; first | omega | (simp <;> omega)))
  clear hz B3 X3 Z3 O3 P03 N03
  (try simp only [Exit.inBlock, Exit.then])
  refine bodyPost_ret (v := .agg #[.int .i64 x.Seq, .slice Ab0 nb0 cb0]) ?_ rfl ?_
  · rw [results_cell1 rfl]
    exact stw.back Z4.out Try.underlying85 rfl szNf
  · exact ⟨_, _, rfl, nf_mk (N04.out.wide (by have hs0 := LTX.out; have hs1 := LTZ.out; have hs2 := LTO.out; have hs3 := LH.out; have hs4 := SP1.out; have hs5 := SS2.out;  first | omega | (simp <;> omega))) (bytes.nd N04.out.1), B4.out⟩
set_option maxRecDepth 100000 in
set_option maxHeartbeats 4000000 in
theorem eqNumberedFrame {w : World} {lo hi lo2 hi2 : Nat} {v u : Value} {x : Nf} (h : RR nf w lo hi v x) (h2 : RR nf w lo2 hi2 u x) :
    Calls Try.prog 98 #[v, u] w (BPost true w) := by
  have LH := Lib.hid h.hi_
  have LH2 := Lib.hid h2.hi_
  obtain ⟨A0, n0, c0, rfl, g0⟩ := nf_r h
  obtain ⟨Ab0, nb0, cb0, rfl, gb0⟩ := nf_r h2
  have P0W := Lib.hid g0
  have Q0W := Lib.hid gb0
  clear h h2 g0 gb0
  go_enter Try.func98, Try.ntmps98
  go_wp2_with fail
  obtain ⟨w0, hW⟩ : ∃ w0, (w.alloc (.cells #[.int .i64 x.Seq, .slice A0 n0 c0] 85)).alloc (.cells #[.int .i64 x.Seq, .slice Ab0 nb0 cb0] 85) = w0 := ⟨_, rfl⟩
  rw [hW]
  have B0 := Lib.hid (show Below w.heap.size w w0 by rw [← hW]; exact ((Below.refl _ _).alloc (by simp <;> omega) _).alloc (by simp <;> omega) _)
  have X0 := Lib.hid (show Bx 85 w0 (w.heap.size) #[.int .i64 x.Seq, .slice A0 n0 c0] by
      rw [← hW]
      have hh := Bx.made 85 w #[.int .i64 x.Seq, .slice A0 n0 c0]
      exact (hh.below (below_box _ _)))
  have Y0 := Lib.hid (show Bx 85 w0 (w.heap.size + 1) #[.int .i64 x.Seq, .slice Ab0 nb0 cb0] by
      rw [← hW]
      have hh : Bx 85 ((w.alloc (.cells #[.int .i64 x.Seq, .slice A0 n0 c0] 85)).alloc (.cells #[.int .i64 x.Seq, .slice Ab0 nb0 cb0] 85)) (w.heap.size + 1) #[.int .i64 x.Seq, .slice Ab0 nb0 cb0] := by have hh := Bx.made 85 (w.alloc (.cells #[.int .i64 x.Seq, .slice A0 n0 c0] 85)) #[.int .i64 x.Seq, .slice Ab0 nb0 cb0]; simpa using hh
      exact hh)
  have P00 := Lib.hid (show RR bytes w0 lo hi (.slice A0 n0 c0) x.Body by rw [← hW]; exact ((P0W.out.below (below_box _ _)).below (below_box _ _)))
  have Q00 := Lib.hid (show RR bytes w0 lo2 hi2 (.slice Ab0 nb0 cb0) x.Body by rw [← hW]; exact ((Q0W.out.below (below_box _ _)).below (below_box _ _)))
  clear hW
  have LTX := Lib.hid X0.out.lt
  have LTY := Lib.hid Y0.out.lt
  (with_reducible refine (eqByteS P00.out Q00.out).mono ?_)
  rintro e w1 ⟨rfl, hb⟩
  have SS1 := Lib.hid hb.size
  have B1 := Lib.hid (B0.out.trans (hb.mono B0.out.size))
  have X1 := Lib.hid (X0.out.below hb)
  have Y1 := Lib.hid (Y0.out.below hb)
  have P01 := Lib.hid (P00.out.below hb)
  have Q01 := Lib.hid (Q00.out.below hb)
  clear hb B0 X0 Y0 P00 Q00
  have cX0 : w1.cell? ⟨w.heap.size, 0, none⟩ = some (.int .i64 x.Seq) := X1.out.cell 0
  have cX1 : w1.cell? ⟨w.heap.size, 1, none⟩ = some (.slice A0 n0 c0) := X1.out.cell 1
  have cY0 : w1.cell? ⟨w.heap.size + 1, 0, none⟩ = some (.int .i64 x.Seq) := Y1.out.cell 0
  have cY1 : w1.cell? ⟨w.heap.size + 1, 1, none⟩ = some (.slice Ab0 nb0 cb0) := Y1.out.cell 1
  go_wp2_with fail
  clear cX0 cX1 cY0 cY1
  go_ret
  exact ⟨rfl, B1.out⟩
set_option maxRecDepth 100000 in
set_option maxHeartbeats 4000000 in
theorem szNumberedFrameS {w : World} {lo hi : Nat} {v : Value} {xs : List Nf} (left : Int) (hleft : 0 ≤ left ∧ left ≤ 1048576) (h : RR rowNf w lo hi v xs) :
    Calls Try.prog 80 #[v, .int .i64 left] w (ZPost left (rowNf.sz xs) w) := by
  obtain ⟨A, n, c, rfl, hl, hnc, hcm⟩ := row_open h
  have HQ := Lib.hid h
  have HL := Lib.hid hl
  obtain ⟨h0, h1⟩ := hleft
  show Calls Try.prog 80 #[.slice A n c, .int .i64 left] w (ZPost left (xs.length + sumT nf.sz xs) w)
  rw [hl]
  obtain ⟨tt, htt⟩ : ∃ tt, sumT nf.sz xs = tt := ⟨_, rfl⟩
  rw [htt]
  have HTT := Lib.hid htt
  clear h hl htt
  have hd : IntKind.i64.wrap (left - n) = left - n := IntWalk.i64_in _ (by omega)
  by_cases hle : (n : Int) ≤ left
  · have hq : ¬ left - n < 0 := by omega
    go_enter Try.func80, Try.ntmps80
    go_wp2_with fail
    go_loopw [1, 5] (fun q i wr => ∃ (k : Nat) (r : Int), i = .int .i64 k ∧ q = .int .i64 r ∧ k ≤ n ∧ r = left - n - (sumT nf.sz (xs.take k) : Nat) ∧ 0 ≤ r ∧ Below w.heap.size w wr) (fun _ i _ => n - (intOf i).toNat)
    case atStart => exact ⟨0, _, rfl, rfl, by omega, by simp [sumT], by omega, Below.refl _ _⟩
    case round =>
      obtain ⟨k, r, rfl, rfl, hk, hr, hr0, hb⟩ := hrel
      have HB := Lib.hid hb
      have HR := Lib.hid (HQ.out.below hb)
      have HP := Lib.hid hr
      have HS := Lib.hid (show 0 ≤ r ∧ r ≤ 1048576 by omega)
      clear hb hr
      by_cases hlt : k < n
      · obtain ⟨b, off, y, u, hA, hy, hb1, hb2, hr, hu⟩ := row_at HR.out hlt
        obtain ⟨A0, n0, c0, rfl, g0⟩ := nf_r hu
        subst hA
        have HT := Lib.hid (take_snoc hy)
        have HU := Lib.hid (show RR nf wr lo hi (nfV y (.slice A0 n0 c0)) y from hu)
        have kc0 : wr.cell? ⟨b, off + k * 2, none⟩ = some (.int .i64 y.Seq) := hr 0 _ rfl
        have kc1 : wr.cell? ⟨b, off + k * 2 + 1, none⟩ = some (.slice A0 n0 c0) := hr 1 _ rfl
        have hlt2 : (k : Int) < n := by omega
        obtain ⟨sy, hsy⟩ : ∃ s, nf.sz y = s := ⟨_, rfl⟩
        have HBS := Lib.hid (show sumT nf.sz (xs.take (k + 1)) = sumT nf.sz (xs.take k) + sy by rw [HT.out, sumT_snoc, hsy])
        have HBL := Lib.hid (show sumT nf.sz (xs.take (k + 1)) ≤ tt by rw [← HTT.out]; exact sumT_take _ _ _)
        have HSY := Lib.hid hsy
        clear hy hu hr hsy g0
        go_wp2_with fail
        (with_reducible refine (szNumberedFrame r HS.out HU.out).mono ?_)
        rintro e w2 hp
        obtain ⟨r2, rfl, hor, hb2⟩ := hp.parts
        rw [HSY.out] at hor
        have HB2 := Lib.hid (HB.out.trans (hb2.mono HB.out.size))
        clear hb2 hp
        rcases hor with ⟨hm, hlo⟩ | ⟨h2, hle2⟩
        · subst hm
          have HE := Lib.hid (show left < ((n + tt : Nat) : Int) by have a1 := HP.out; have a2 := HBS.out; have a3 := HBL.out; omega)
          clear hlo
          go_wp2_with fail
          go_ret
          exact ⟨-1, rfl, Or.inl ⟨rfl, HE.out⟩, HB2.out⟩
        · have hng : ¬ r2 < 0 := by omega
          have HH := Lib.hid h2
          clear h2 hle2
          have HR2 := Lib.hid (show r2 = left - n - (sumT nf.sz (xs.take (k + 1)) : Nat) by have a0 := HH.out; have a1 := HP.out; have a2 := HBS.out; omega)
          go_wp2_with fail
          go_roundw
          case rel => exact ⟨k + 1, r2, by go_num, rfl, by omega, HR2.out, by omega, HB2.out⟩
          case measure => simp [intOf]; omega
      · have hlt2 : ¬ (k : Int) < n := by omega
        obtain rfl : k = n := by omega
        have HF := Lib.hid (show r = left - ((k + tt : Nat) : Int) by have a1 := HP.out; rw [List.take_of_length_le (by rw [HL.out]; exact Nat.le_refl _), HTT.out] at a1; omega)
        have HG := Lib.hid (show ((k + tt : Nat) : Int) ≤ left by have := HF.out; omega)
        go_wp2_with fail
        go_ret
        exact ⟨r, rfl, Or.inr ⟨HF.out, HG.out⟩, HB.out⟩
  · have hq : left - n < 0 := by omega
    have HE := Lib.hid (show left < ((n + tt : Nat) : Int) by omega)
    go_enter Try.func80, Try.ntmps80
    go_wp2_with fail
    go_ret
    exact ⟨-1, rfl, Or.inl ⟨rfl, HE.out⟩, Below.refl _ _⟩
set_option maxRecDepth 100000 in
set_option maxHeartbeats 4000000 in
theorem toNumberedFrameS {w : World} {lo hi : Nat} {v : Value} {xs : List Nf} (h : RR rowNf w lo hi v xs) (hs : rowNf.sz xs ≤ 67108864) :
    Calls Try.prog 81 #[v] w (ToPost rowNf xs w) := by
  obtain ⟨i0, hi0, hz0, hz1, hz2⟩ := info_parts infoNf
  obtain ⟨A, n, c, rfl, hl, hnc, hcm⟩ := row_open h
  have hs9 : xs.length + sumT nf.sz xs ≤ 67108864 := hs
  have hmk := fun W => mq.run_makeS (P := Try.prog) 29 85 i0 _ 2 Try.underlying29 hi0 hz0 hz1 n (by rw [hz2]; omega) (by omega) W
  have HQ := Lib.hid h
  have HL := Lib.hid hl
  have HN := Lib.hid (show n ≤ 67108864 by omega)
  have HBD := Lib.hid (show ∀ y ∈ xs, nf.sz y ≤ 67108864 from fun y hy => by have := sumT_mem nf.sz hy; omega)
  clear h hz2 hz1 hz0 hi0 hs hs9 hl
  go_enter Try.func81, Try.ntmps81
  go_wp2_with fail
  go_loopw [4] (fun i wr => ∃ k : Nat, i = .int .i64 k ∧ k ≤ n ∧ Grow nf 85 wr w.heap.size n wr.heap.size (xs.take k) ∧ Below w.heap.size w wr) (fun i _ => n - (intOf i).toNat)
  case atStart => exact ⟨0, rfl, by omega, Grow.start _ _ _ (by have := HN.out; unfold maxLen; omega) (size_madeCells _ _), below_box _ _⟩
  case round =>
    obtain ⟨k, rfl, hk, hg, hb⟩ := hrel
    have HG := Lib.hid hg
    have HB := Lib.hid hb
    have HR := Lib.hid (HQ.out.below hb)
    clear hg hb
    by_cases hlt : k < n
    · obtain ⟨b, off, y, u, hA, hy, hb1, hb2, hr, hu⟩ := row_at HR.out hlt
      obtain ⟨A0, n0, c0, rfl, g0⟩ := nf_r hu
      subst hA
      have HT := Lib.hid (take_snoc hy)
      have HU := Lib.hid (show RR nf wr lo hi (nfV y (.slice A0 n0 c0)) y from hu)
      have kc0 : wr.cell? ⟨b, off + k * 2, none⟩ = some (.int .i64 y.Seq) := hr 0 _ rfl
      have kc1 : wr.cell? ⟨b, off + k * 2 + 1, none⟩ = some (.slice A0 n0 c0) := hr 1 _ rfl
      have hlt2 : (k : Int) < n := by omega
      have HSY := Lib.hid (HBD.out y (List.mem_of_getElem? hy))
      clear hy hu hr g0
      go_wp2_with fail
      (with_reducible refine (toNumberedFrame HU.out HSY.out).mono ?_)
      rintro e w2 hp
      obtain ⟨u2, f2, rfl, ho, hb2⟩ := hp.parts
      clear hp
      obtain ⟨Ae0, ne0, ce0, fe0, rfl, ge0, hf2, hn2⟩ := nf_o ho
      have HO := Lib.hid ho
      have HG2 := Lib.hid (HG.out.below hb2)
      have HB2 := Lib.hid (HB.out.trans (hb2.mono HB.out.size))
      have TH := Lib.hid (show w2.there w.heap.size (k * 2) 2 from HG2.out.there (k := k) hlt)
      have HSZ := Lib.hid szNf
      have HON := Lib.hid (oneNf y.Seq Ae0 ne0 ce0)
      have HSB := Lib.hid HB.out.size
      clear ho hb2 ge0 hf2 hn2 kc0 kc1
      go_wp2_with ((refine mrw.list_storeAt w.heap.size (k * 2) #[.int .i64 y.Seq, .slice Ae0 ne0 ce0] TH.out HSZ.out HON.out ?_ ?_ ?_; (· rfl); (· rfl)))
      go_roundw
      case rel => exact ⟨k + 1, by go_num, by omega, by rw [HT.out]; exact HG2.out.put (by rw [List.length_take, HL.out]; omega) hlt HO.out HON.out rfl rfl (Nat.le_refl _), mrw.below_setCells _ _ _ HB2.out (Nat.le_refl _)⟩
      case measure => simp [intOf]; omega
    · have hlt2 : ¬ (k : Int) < n := by omega
      obtain rfl : k = n := by omega
      have HF := Lib.hid (show xs.take k = xs from List.take_of_length_le (by rw [HL.out]; exact Nat.le_refl _))
      go_wp2_with fail
      go_ret
      obtain ⟨fp, hd⟩ := HG.out.done (by rw [HF.out]; exact HL.out)
      rw [HF.out] at hd
      exact ⟨_, fp, rfl, hd, HB.out⟩
set_option maxRecDepth 100000 in
set_option maxHeartbeats 4000000 in
theorem eqNumberedFrameS {w : World} {lo hi lo2 hi2 : Nat} {v u : Value} {xs : List Nf} (h : RR rowNf w lo hi v xs) (h2 : RR rowNf w lo2 hi2 u xs) :
    Calls Try.prog 77 #[v, u] w (BPost true w) := by
  obtain ⟨A, n, c, rfl, hl, hnc, hcm⟩ := row_open h
  obtain ⟨A2, n2, c2, rfl, hl2, hnc2, hcm2⟩ := row_open h2
  obtain rfl : n = n2 := hl.symm.trans hl2
  have HQ := Lib.hid h
  have HP := Lib.hid h2
  clear h h2
  go_enter Try.func77, Try.ntmps77
  go_wp2_with fail
  go_loopw [5] (fun i wr => ∃ k : Nat, i = .int .i64 k ∧ k ≤ n ∧ Below w.heap.size w wr) (fun i _ => n - (intOf i).toNat)
  case atStart => exact ⟨0, rfl, by omega, Below.refl _ _⟩
  case round =>
    obtain ⟨k, rfl, hk, hb⟩ := hrel
    have HB := Lib.hid hb
    have HR := Lib.hid (HQ.out.below hb)
    have HS := Lib.hid (HP.out.below hb)
    clear hb
    by_cases hlt : k < n
    · obtain ⟨b, off, y, u, hA, hy, hb1, hb2, hr, hu⟩ := row_at HR.out hlt
      obtain ⟨A0, n0, c0, rfl, g0⟩ := nf_r hu
      obtain ⟨bb, offb, yb, ub, hAb, hyb, hb1b, hb2b, hrb, hub⟩ := row_at HS.out hlt
      obtain ⟨Ab0, nb0, cb0, rfl, gb0⟩ := nf_r hub
      obtain rfl : y = yb := Option.some.inj (hy.symm.trans hyb)
      subst hA hAb
      have hlt2 : (k : Int) < n := by omega
      have kc0 : wr.cell? ⟨b, off + k * 2, none⟩ = some (.int .i64 y.Seq) := hr 0 _ rfl
      have kc1 : wr.cell? ⟨b, off + k * 2 + 1, none⟩ = some (.slice A0 n0 c0) := hr 1 _ rfl
      have kcb0 : wr.cell? ⟨bb, offb + k * 2, none⟩ = some (.int .i64 y.Seq) := hrb 0 _ rfl
      have kcb1 : wr.cell? ⟨bb, offb + k * 2 + 1, none⟩ = some (.slice Ab0 nb0 cb0) := hrb 1 _ rfl
      have HU := Lib.hid (show RR nf wr lo hi (nfV y (.slice A0 n0 c0)) y from hu)
      have HUb := Lib.hid (show RR nf wr lo2 hi2 (nfV y (.slice Ab0 nb0 cb0)) y from hub)
      clear hu hub hy hyb hr hrb g0 gb0
      go_upto_region 6 with fail
      have d0 : ∀ m : Af wr, m.w.cell? ⟨b, off + k * 2, none⟩ = some (.int .i64 y.Seq) := fun m => by rw [m.below.cell (World.block_lt_of_cell? _ _ kc0)]; exact kc0
      have d1 : ∀ m : Af wr, m.w.cell? ⟨b, off + k * 2 + 1, none⟩ = some (.slice A0 n0 c0) := fun m => by rw [m.below.cell (World.block_lt_of_cell? _ _ kc1)]; exact kc1
      have db0 : ∀ m : Af wr, m.w.cell? ⟨bb, offb + k * 2, none⟩ = some (.int .i64 y.Seq) := fun m => by rw [m.below.cell (World.block_lt_of_cell? _ _ kcb0)]; exact kcb0
      have db1 : ∀ m : Af wr, m.w.cell? ⟨bb, offb + k * 2 + 1, none⟩ = some (.slice Ab0 nb0 cb0) := fun m => by rw [m.below.cell (World.block_lt_of_cell? _ _ kcb1)]; exact kcb1
      have q0 := Lib.hid (fun m => eqNumberedFrame (HU.out.below m.below) (HUb.out.below m.below) : ∀ m : Af wr, Calls Try.prog 98 #[nfV y (.slice A0 n0 c0), nfV y (.slice Ab0 nb0 cb0)] m.w fun e w' => e = .returned (.bool true) ∧ Below m.w.heap.size m.w w')
      clear kc0 kc1 kcb0 kcb1
      refine region_after (by kernel_rfl) (by kernel_rfl) ?_
      repeat (go_big_quiet_step ((go_at_call 98; with_reducible exact Af.call (q0.out _))))
      refine wpQuiet_nil ?_
      intro _ hw'
      obtain ⟨nq, hw''⟩ := hw'
      subst hw''
      clear d0 d1 db0 db1 q0
      obtain ⟨w5, hw5⟩ : ∃ w5, nq.w = w5 := ⟨_, rfl⟩
      have NB := Lib.hid nq.below
      rw [hw5] at NB
      (try rw [hw5])
      clear hw5
      have HB5 := Lib.hid (HB.out.trans (NB.out.mono HB.out.size))
      clear NB nq HB
      go_wp2_with fail
      go_roundw
      case rel => exact ⟨k + 1, by go_num, by omega, HB5.out⟩
      case measure => simp [intOf]; omega
    · have hlt2 : ¬ (k : Int) < n := by omega
      go_wp2_with fail
      go_ret
      exact ⟨rfl, HB.out⟩
set_option maxRecDepth 100000 in
set_option maxHeartbeats 4000000 in
theorem markNumberedFrameS {w : World} {lo hi : Nat} {fp : List Nat} {v : Value} {xs : List Nf} (q : Int) (h : OO rowNf w lo hi fp v xs) (hq : 0 ≤ q ∧ q + (rowNf.tot xs : Nat) ≤ 1099511627776) (hs : rowNf.sz xs ≤ 67108864) :
    Calls Try.prog 78 #[v, .int .i64 q] w (MkPost rowNf (rowNf.mkx q xs) (q + (rowNf.tot xs : Nat)) lo hi fp v w) := by
  obtain ⟨A, n, c, rfl, hl, hnc, hcm⟩ := row_open h.rd
  have HL := Lib.hid hl
  have hq9 : 0 ≤ q ∧ q + (sumT nf.tot xs : Nat) ≤ 1099511627776 := hq
  have HQ := Lib.hid hq9
  have hs9 : xs.length + sumT nf.sz xs ≤ 67108864 := hs
  have HBD := Lib.hid (show ∀ y ∈ xs, nf.sz y ≤ 67108864 from fun y hy => by have := sumT_mem nf.sz hy; omega)
  have KH := Lib.hid h.hi_
  have H0 := Lib.hid h
  show Calls Try.prog 78 #[.slice A n c, .int .i64 q] w (MkPost rowNf (mks nf.mkx nf.tot q xs) (q + (sumT nf.tot xs : Nat)) lo hi fp (.slice A n c) w)
  clear h hq hq9 hs hs9 hl
  go_enter Try.func78, Try.ntmps78
  go_wp2_with fail
  go_loopw [1, 5] (fun q2 i wr => ∃ j : Nat, i = .int .i64 j ∧ q2 = .int .i64 (q + (sumT nf.tot (xs.take j) : Nat)) ∧ j ≤ n ∧ OO rowNf wr lo hi fp (.slice A n c) (mks nf.mkx nf.tot q (xs.take j) ++ xs.drop j) ∧ KS fp w wr) (fun _ i _ => n - (intOf i).toNat)
  case atStart => exact ⟨0, rfl, by simp [sumT], by omega, by simpa [mks] using H0.out, KS.refl _ _⟩
  clear H0
  case round =>
    obtain ⟨j, rfl, rfl, hj, ho, hk⟩ := hrel
    obtain ⟨t, hq⟩ : ∃ t, q + (sumT nf.tot (xs.take j) : Nat) = t := ⟨_, rfl⟩
    have HTT := Lib.hid hq
    have HO := Lib.hid ho
    have K0 := Lib.hid hk
    have hb1 : 0 ≤ t ∧ t ≤ 1099511627776 := by have a1 := HQ.out; have a2 := sumT_take nf.tot xs j; omega
    rw [hq]
    clear ho hk hq
    by_cases hlt : j < n
    · have hlt2 : (j : Int) < n := by omega
      obtain ⟨x, hx⟩ : ∃ x, xs[j]? = some x := ⟨_, List.getElem?_eq_getElem (by rw [HL.out]; exact hlt)⟩
      have HX := Lib.hid hx
      have hx2 := at_mid (mk := nf.mkx) (tot := nf.tot) (q := q) hx
      have HSX := Lib.hid (HBD.out x (List.mem_of_getElem? hx))
      have hend : t + (nf.tot x : Nat) ≤ 1099511627776 := by have a1 := HQ.out; have a2 := sumT_take nf.tot xs (j + 1); rw [take_snoc hx, sumT_snoc] at a2; have a3 := HTT.out; omega
      have HND := Lib.hid hend
      obtain ⟨g, n1, cc1, l, r, u, f, e1, hlj, hsp, hole, hox, hfp, hnd, husz, huone⟩ := row_hole HO.out hx2
      injection e1 with e1 e2 e3
      subst e1 e2 e3
      obtain ⟨A0, n0, c0, f0, rfl, g0, hff, hnf⟩ := nf_o hox
      have HO0 := Lib.hid (show Hole nf 85 wr g n c l r [.int .i64 x.Seq, .slice A0 n0 c0] from hole)
      have HFP := Lib.hid hfp
      have HNF := Lib.hid hnd
      have AP := Lib.hid (hole_apart hfp hnd)
      have HIN := Lib.hid hox.inn
      have HALL := Lib.hid HO.out.inn
      have HHI := Lib.hid HO.out.hi_
      have HLJ := Lib.hid hlj
      have HSP := Lib.hid hsp
      have N0_0 := Lib.hid g0
      have HFF := Lib.hid hff
      have HNN := Lib.hid hnf
      clear hole hox hx hx2 hfp hnd husz huone hlj hsp HO hff hnf g0
      have kc0 : wr.cell? ⟨g, j * 2, none⟩ = some (.int .i64 x.Seq) := HO0.out.cell HLJ.out (i := 0) rfl
      have kc1 : wr.cell? ⟨g, j * 2 + 1, none⟩ = some (.slice A0 n0 c0) := HO0.out.cell HLJ.out (i := 1) rfl
      have fz0 : wr.frozen? ⟨g, j * 2, none⟩ = false := HO0.out.free _
      have mt1 : IntKind.i64.wrap (t + 1) = t + 1 := IntWalk.i64_in _ (by omega)
      go_wp2_with fail
      clear kc0 kc1 fz0 mt1
      obtain ⟨wa0, hW⟩ : ∃ wy, wr.setCell ⟨g, j * 2, none⟩ (.int .i64 t) = wy := ⟨_, rfl⟩
      rw [hW]
      have HO1 := Lib.hid (show Hole nf 85 wa0 g n c l r [.int .i64 t, .slice A0 n0 c0] by rw [← hW]; exact (HO0.out.set HLJ.out (i := 0) (by show 0 < 2; omega) (.int .i64 t)))
      have hks : KS [g] wr wa0 := by rw [← hW]; exact (KS.refl [g] wr).trans (ks_set (List.mem_singleton.2 rfl) _ _)
      have K1 := Lib.hid (K0.out.trans (ks_more hks (fun b hb => by rw [List.mem_singleton.1 hb]; exact AP.out.2.2.2.1)))
      have N0_1 := Lib.hid (N0_0.out.ks hks (fun b hb hg => AP.out.1 (by have e9 := List.mem_singleton.1 hg; rw [← e9]; rw [HFF.out]; simp [hb])))
      clear hW hks HO0 K0 N0_0
      have HK0 := Lib.hid (show 0 ≤ (t + 1) ∧ (t + 1) + (bytes.tot x.Body : Nat) ≤ 1099511627776 by have a1 := HND.out; have a2 : nf.tot x = 1 + bytes.tot x.Body := rfl; omega)
      have HZ0 := Lib.hid (show bytes.sz x.Body ≤ 67108864 by have a1 := HSX.out; have a2 : nf.sz x = bytes.sz x.Body := rfl; omega)
      (with_reducible refine (markByteS (t + 1) N0_1.out HK0.out HZ0.out).mono ?_)
      rintro e wb1 hp
      obtain ⟨rfl, ho, hk⟩ := hp.parts
      have HO2 := Lib.hid (HO1.out.ks hk (fun hb => AP.out.1 (by rw [HFF.out]; simp [hb])) (fun e he b hb hb2 => AP.out.2.1 e he b hb (by rw [HFF.out]; simp [hb2])))
      have K2 := Lib.hid (K1.out.trans (ks_more hk (fun b hb => AP.out.2.2.1 b (by rw [HFF.out]; simp [hb]))))
      have N0_2 := Lib.hid ho
      clear hp ho hk HO1 K1 N0_1
      obtain ⟨t0, ht0⟩ : ∃ y : Int, (t + 1) + (bytes.tot x.Body : Nat) = y := ⟨_, rfl⟩
      have Ht0 := Lib.hid ht0
      have hbt0 : 0 ≤ t0 ∧ t0 ≤ 1099511627776 := by have a1 := HK0.out; omega
      rw [ht0]
      clear ht0
      have kc0 : wb1.cell? ⟨g, j * 2, none⟩ = some (.int .i64 t) := HO2.out.cell HLJ.out (i := 0) rfl
      have kc1 : wb1.cell? ⟨g, j * 2 + 1, none⟩ = some (.slice A0 n0 c0) := HO2.out.cell HLJ.out (i := 1) rfl
      go_wp2_with fail
      clear kc0 kc1
      have HX1 := Lib.hid (take_snoc HX.out)
      have HEND := Lib.hid (show t0 = q + (sumT nf.tot (xs.take (j + 1)) : Nat) by rw [HX1.out, sumT_snoc]; have a1 := HTT.out; have a2 : nf.tot x = 1 + bytes.tot x.Body := rfl; have b0 := Ht0.out; omega)
      have HCL := Lib.hid (show OO rowNf wb1 lo hi fp (.slice (some ⟨g, 0, none⟩) n c) (l.map (·.x) ++ nf.mkx t x :: r.map (·.x)) by
          have hm : nf.mkx t x = (⟨t, bytes.mkx (t + 1) x.Body⟩ : Nf) := by (try rw [← Ht0.out]); rfl
          rw [hm]
          have ho := nf_mk (x := (⟨t, bytes.mkx (t + 1) x.Body⟩ : Nf)) N0_2.out (by rw [← HFF.out]; exact HNN.out)
          rw [← HFF.out] at ho
          exact Hole.close (u := nfV (⟨t, bytes.mkx (t + 1) x.Body⟩ : Nf) (.slice A0 n0 c0)) HO2.out ho.1 (oneNf _ _ _ _) HFP.out HNF.out HALL.out (by have a1 := HHI.out; have a2 := K2.out.size; have a3 := KH.out; omega))
      go_roundw
      case rel => exact ⟨j + 1, by go_num, by rw [HEND.out], by omega, by rw [← round_mk HX.out (show (l.map (·.x)).length = j by rw [List.length_map]; exact HLJ.out) HSP.out, HTT.out]; exact HCL.out, K2.out⟩
      case measure => simp [intOf]; omega
    · have hlt2 : ¬ (j : Int) < n := by omega
      obtain rfl : j = n := by omega
      have HF := Lib.hid (show xs.take j = xs from List.take_of_length_le (by rw [HL.out]; exact Nat.le_refl _))
      have HG := Lib.hid (show t = q + (sumT nf.tot xs : Nat) by rw [← HTT.out, HF.out])
      have HE := Lib.hid (show OO rowNf wr lo hi fp (.slice A j c) (mks nf.mkx nf.tot q xs) by have hh := HO.out; rw [HF.out, List.drop_of_length_le (by rw [HL.out]; exact Nat.le_refl _), List.append_nil] at hh; exact hh)
      clear HO
      go_wp2_with fail
      go_ret
      exact ⟨by rw [← HG.out]; rfl, HE.out, K0.out⟩
set_option maxRecDepth 100000 in
set_option maxHeartbeats 4000000 in
theorem heldNumberedFrameS {w : World} {lo hi : Nat} {v : Value} {xs : List Nf} (q : Int) (h : RR rowNf w lo hi v (rowNf.mkx q xs)) (hq : 0 ≤ q ∧ q + (rowNf.tot xs : Nat) ≤ 1099511627776) (hs : rowNf.sz xs ≤ 67108864) :
    Calls Try.prog 79 #[v, .int .i64 q] w (NPost (q + (rowNf.tot xs : Nat)) w) := by
  obtain ⟨A, n, c, rfl, hl, hnc, hcm⟩ := row_open h
  have hl2 : xs.length = n := by rw [← hl]; exact (mks_len nf.mkx nf.tot xs q).symm
  have HL := Lib.hid hl2
  have hq9 : 0 ≤ q ∧ q + (sumT nf.tot xs : Nat) ≤ 1099511627776 := hq
  have HQ := Lib.hid hq9
  have hs9 : xs.length + sumT nf.sz xs ≤ 67108864 := hs
  have HBD := Lib.hid (show ∀ y ∈ xs, nf.sz y ≤ 67108864 from fun y hy => by have := sumT_mem nf.sz hy; omega)
  have H0 := Lib.hid h
  show Calls Try.prog 79 #[.slice A n c, .int .i64 q] w (NPost (q + (sumT nf.tot xs : Nat)) w)
  clear h hq hq9 hs hs9 hl hl2
  go_enter Try.func79, Try.ntmps79
  go_wp2_with fail
  go_loopw [1, 5] (fun q2 i wr => ∃ j : Nat, i = .int .i64 j ∧ q2 = .int .i64 (q + (sumT nf.tot (xs.take j) : Nat)) ∧ j ≤ n ∧ Below w.heap.size w wr) (fun _ i _ => n - (intOf i).toNat)
  case atStart => exact ⟨0, rfl, by simp [sumT], by omega, Below.refl _ _⟩
  case round =>
    obtain ⟨j, rfl, rfl, hj, hb⟩ := hrel
    obtain ⟨t, hq⟩ : ∃ t, q + (sumT nf.tot (xs.take j) : Nat) = t := ⟨_, rfl⟩
    have HTT := Lib.hid hq
    have HB := Lib.hid hb
    have HR := Lib.hid (H0.out.below hb)
    have hb1 : 0 ≤ t ∧ t ≤ 1099511627776 := by have a1 := HQ.out; have a2 := sumT_take nf.tot xs j; omega
    rw [hq]
    clear hb hq
    by_cases hlt : j < n
    · have hlt2 : (j : Int) < n := by omega
      obtain ⟨x, hx⟩ : ∃ x, xs[j]? = some x := ⟨_, List.getElem?_eq_getElem (by rw [HL.out]; exact hlt)⟩
      have HX := Lib.hid hx
      have HSX := Lib.hid (HBD.out x (List.mem_of_getElem? hx))
      have hend : t + (nf.tot x : Nat) ≤ 1099511627776 := by have a1 := HQ.out; have a2 := sumT_take nf.tot xs (j + 1); rw [take_snoc hx, sumT_snoc] at a2; have a3 := HTT.out; omega
      have HND := Lib.hid hend
      obtain ⟨b, off, y, u, hA, hy, hb1_, hb2_, hr, hu⟩ := row_at HR.out hlt
      obtain rfl : y = nf.mkx t x := by have hy : (mks nf.mkx nf.tot q xs)[j]? = some y := hy; rw [mks_at nf.mkx nf.tot hx, HTT.out] at hy; exact (Option.some.inj hy).symm
      obtain ⟨A0, n0, c0, rfl, g0⟩ := nf_r hu
      subst hA
      have kc0 : wr.cell? ⟨b, off + j * 2, none⟩ = some (.int .i64 t) := hr 0 _ rfl
      have kc1 : wr.cell? ⟨b, off + j * 2 + 1, none⟩ = some (.slice A0 n0 c0) := hr 1 _ rfl
      have P0 := Lib.hid g0
      obtain ⟨t0, ht0⟩ : ∃ y : Int, t + 1 + (bytes.tot x.Body : Nat) = y := ⟨_, rfl⟩
      have Ht0 := Lib.hid ht0
      have HK0 := Lib.hid (show 0 ≤ t + 1 ∧ t + 1 + (bytes.tot x.Body : Nat) ≤ 1099511627776 by have a1 := HND.out; have a2 : nf.tot x = 1 + bytes.tot x.Body := rfl; omega)
      have HZ0 := Lib.hid (show bytes.sz x.Body ≤ 67108864 by have a1 := HSX.out; have a2 : nf.sz x = bytes.sz x.Body := rfl; omega)
      have hbt0 : 0 ≤ t0 ∧ t0 ≤ 1099511627776 := by have a1 := HK0.out; omega
      clear ht0
      clear hu hy hr g0 hx
      have mt1 : IntKind.i64.wrap (t + 1) = t + 1 := IntWalk.i64_in _ (by omega)
      go_wp2_with fail
      (with_reducible refine (heldByteS (t + 1) P0.out HK0.out HZ0.out).mono ?_)
      rw [Ht0.out]
      rintro e wh0 ⟨rfl, hb⟩
      replace kc0 := (hb.cell (World.block_lt_of_cell? _ _ kc0)).trans kc0
      replace kc1 := (hb.cell (World.block_lt_of_cell? _ _ kc1)).trans kc1
      have P0 := Lib.hid (P0.out.below hb)
      have HB0 := Lib.hid (HB.out.trans (hb.mono HB.out.size))
      clear hb HB mt1
      have hng1 : ¬ t0 < 0 := by omega
      go_wp2_with fail
      have HEND := Lib.hid (show t0 = q + (sumT nf.tot (xs.take (j + 1)) : Nat) by rw [take_snoc HX.out, sumT_snoc]; have a1 := HTT.out; have a2 : nf.tot x = 1 + bytes.tot x.Body := rfl; have b0 := Ht0.out; omega)
      go_roundw
      case rel => exact ⟨j + 1, by go_num, by rw [HEND.out], by omega, HB0.out⟩
      case measure => simp [intOf]; omega
    · have hlt2 : ¬ (j : Int) < n := by omega
      obtain rfl : j = n := by omega
      have HF := Lib.hid (show xs.take j = xs from List.take_of_length_le (by rw [HL.out]; exact Nat.le_refl _))
      have HG := Lib.hid (show t = q + (sumT nf.tot xs : Nat) by rw [← HTT.out, HF.out])
      go_wp2_with fail
      go_ret
      exact ⟨by rw [← HG.out]; rfl, HB.out⟩
theorem infoRob : (Try.prog.info? 31).map (fun i => (i.zero, i.size, i.bytes)) = some (some (.agg #[.int .i64 0, .slice none 0 0]), 2, 32) := by kernel_rfl
theorem szLRob : (Try.prog.info? 55).map (·.size) = some 2 := by kernel_rfl
set_option maxRecDepth 100000 in
set_option maxHeartbeats 4000000 in
theorem szReorderBuffer {w : World} {lo hi : Nat} {v : Value} {x : Rob} (left : Int) (hl : 0 ≤ left ∧ left ≤ 1048576) (h : RR rob w lo hi v x) :
    Calls Try.prog 35 #[v, .int .i64 left] w (ZPost left (rob.sz x) w) := by
  have LH := Lib.hid h.hi_
  obtain ⟨A0, n0, c0, rfl, g0⟩ := rob_r h
  show Calls Try.prog 35 #[robV x (.slice A0 n0 c0), .int .i64 left] w (ZPost left (rowNf.sz x.Pending) w)
  have P0W := Lib.hid g0
  have LL0 := Lib.hid hl
  clear h hl g0
  obtain ⟨s0, hs0⟩ : ∃ s, rowNf.sz x.Pending = s := ⟨_, rfl⟩
  rw [hs0]
  have HS0 := Lib.hid hs0
  clear hs0
  go_enter Try.func35, Try.ntmps35
  go_wp2_with fail
  obtain ⟨w0, hW⟩ : ∃ w0, w.alloc (.cells #[.int .i64 x.Start, .slice A0 n0 c0] 55) = w0 := ⟨_, rfl⟩
  rw [hW]
  have B0 := Lib.hid (show Below w.heap.size w w0 by rw [← hW]; exact (Below.refl _ _).alloc (by simp <;> omega) _)
  have X0 := Lib.hid (show Bx 55 w0 (w.heap.size) #[.int .i64 x.Start, .slice A0 n0 c0] by
      rw [← hW]
      have hh := Bx.made 55 w #[.int .i64 x.Start, .slice A0 n0 c0]
      exact hh)
  have P00 := Lib.hid (show RR rowNf w0 lo hi (.slice A0 n0 c0) x.Pending by rw [← hW]; exact (P0W.out.below (below_box _ _)))
  clear hW
  have LTX := Lib.hid X0.out.lt
  (with_reducible refine (szNumberedFrameS left LL0.out P00.out).mono ?_)
  rintro e w1 hp
  obtain ⟨r0, rfl, hor, hb⟩ := hp.parts
  rw [HS0.out] at hor
  clear hp
  have SS1 := Lib.hid hb.size
  have B1 := Lib.hid (B0.out.trans (hb.mono B0.out.size))
  have X1 := Lib.hid (X0.out.below hb)
  have P01 := Lib.hid (P00.out.below hb)
  clear hb B0 X0 P00
  rcases hor with ⟨hm, hlo⟩ | ⟨hr, hle⟩
  · subst hm
    have HLO := Lib.hid hlo
    clear hlo
    go_wp2_with fail
    go_ret
    exact ⟨-1, rfl, .inl ⟨rfl, by  have q9 := HLO.out; omega⟩, B1.out⟩
  · have HR0 := Lib.hid hr
    have HE0 := Lib.hid hle
    have hng : ¬ r0 < 0 := by omega
    have LL1 := Lib.hid (show 0 ≤ r0 ∧ r0 ≤ 1048576 by have q9 := LL0.out; omega)
    clear hr hle
    have cX0 : w1.cell? ⟨w.heap.size, 0, none⟩ = some (.int .i64 x.Start) := X1.out.cell 0
    have cX1 : w1.cell? ⟨w.heap.size, 1, none⟩ = some (.slice A0 n0 c0) := X1.out.cell 1
    go_wp2_with fail
    clear cX0 cX1
    go_ret
    exact ⟨r0, rfl, .inr ⟨by  have q0 := HR0.out; have p0 := HE0.out; omega, by  have q0 := HR0.out; have p0 := HE0.out; omega⟩, B1.out⟩
set_option maxRecDepth 100000 in
set_option maxHeartbeats 4000000 in
theorem toReorderBuffer {w : World} {lo hi : Nat} {v : Value} {x : Rob} (h : RR rob w lo hi v x) (hs : rob.sz x ≤ 67108864) :
    Calls Try.prog 36 #[v] w (ToPost rob x w) := by
  have LH := Lib.hid h.hi_
  obtain ⟨A0, n0, c0, rfl, g0⟩ := rob_r h
  have P0W := Lib.hid g0
  have hs9 : rowNf.sz x.Pending ≤ 67108864 := hs
  have HS0 := Lib.hid (show rowNf.sz x.Pending ≤ 67108864 by omega)
  clear hs9
  clear h hs g0
  go_enter Try.func36, Try.ntmps36
  go_upto_region 2 with fail
  obtain ⟨w0, hW⟩ : ∃ w0, ((w.alloc (.cells #[.int .i64 x.Start, .slice A0 n0 c0] 55)).alloc (.cells #[.int .i64 0, .slice none 0 0] 31)).alloc (.cells #[.int .i64 0, .slice none 0 0] 31) = w0 := ⟨_, rfl⟩
  rw [hW]
  have B0 := Lib.hid (show Below w.heap.size w w0 by rw [← hW]; exact (((Below.refl _ _).alloc (by simp <;> omega) _).alloc (by simp <;> omega) _).alloc (by simp <;> omega) _)
  have X0 := Lib.hid (show Bx 55 w0 (w.heap.size) #[.int .i64 x.Start, .slice A0 n0 c0] by
      rw [← hW]
      have hh := Bx.made 55 w #[.int .i64 x.Start, .slice A0 n0 c0]
      exact ((hh.below (below_box _ _)).below (below_box _ _)))
  have Z0 := Lib.hid (show Bx 31 w0 (w.heap.size + 1) #[.int .i64 0, .slice none 0 0] by
      rw [← hW]
      have hh : Bx 31 ((w.alloc (.cells #[.int .i64 x.Start, .slice A0 n0 c0] 55)).alloc (.cells #[.int .i64 0, .slice none 0 0] 31)) (w.heap.size + 1) #[.int .i64 0, .slice none 0 0] := by have hh := Bx.made 31 (w.alloc (.cells #[.int .i64 x.Start, .slice A0 n0 c0] 55)) #[.int .i64 0, .slice none 0 0]; simpa using hh
      exact (hh.below (below_box _ _)))
  have O0 := Lib.hid (show Bx 31 w0 (w.heap.size + 1 + 1) #[.int .i64 0, .slice none 0 0] by
      rw [← hW]
      have hh : Bx 31 (((w.alloc (.cells #[.int .i64 x.Start, .slice A0 n0 c0] 55)).alloc (.cells #[.int .i64 0, .slice none 0 0] 31)).alloc (.cells #[.int .i64 0, .slice none 0 0] 31)) (w.heap.size + 1 + 1) #[.int .i64 0, .slice none 0 0] := by have hh := Bx.made 31 ((w.alloc (.cells #[.int .i64 x.Start, .slice A0 n0 c0] 55)).alloc (.cells #[.int .i64 0, .slice none 0 0] 31)) #[.int .i64 0, .slice none 0 0]; simpa using hh
      exact hh)
  have P00 := Lib.hid (show RR rowNf w0 lo hi (.slice A0 n0 c0) x.Pending by rw [← hW]; exact (((P0W.out.below (below_box _ _)).below (below_box _ _)).below (below_box _ _)))
  clear hW
  have LTX := Lib.hid X0.out.lt
  have LTZ := Lib.hid Z0.out.lt
  have LTO := Lib.hid O0.out.lt
  have cX0 : w0.cell? ⟨w.heap.size, 0, none⟩ = some (.int .i64 x.Start) := X0.out.cell 0
  have cX1 : w0.cell? ⟨w.heap.size, 1, none⟩ = some (.slice A0 n0 c0) := X0.out.cell 1
  have cO0 : w0.cell? ⟨w.heap.size + 1 + 1, 0, none⟩ = some (.int .i64 0) := O0.out.cell 0
  have cO1 : w0.cell? ⟨w.heap.size + 1 + 1, 1, none⟩ = some (.slice none 0 0) := O0.out.cell 1
  have fO0 : w0.frozen? ⟨w.heap.size + 1 + 1, 0, none⟩ = false := O0.out.free 0
  have fO1 : w0.frozen? ⟨w.heap.size + 1 + 1, 1, none⟩ = false := O0.out.free 1
  go_wp2_with fail
  clear cX0 cX1 cO0 cO1 fO0 fO1
  have hWW : (w0.setCell ⟨w.heap.size + 1 + 1, 0, none⟩ (.int .i64 x.Start)) = (w0.setCell ⟨w.heap.size + 1 + 1, 0, none⟩ (.int .i64 x.Start)) := rfl
  obtain ⟨w1, hW⟩ : ∃ wy, (w0.setCell ⟨w.heap.size + 1 + 1, 0, none⟩ (.int .i64 x.Start)) = wy := ⟨_, rfl⟩
  rw [hW]
  clear hWW
  have B1 := Lib.hid (show Below w.heap.size w w1 by rw [← hW]; exact (B0.out.setCell (p := ⟨w.heap.size + 1 + 1, 0, none⟩) (by have hs0 := LTX.out; have hs1 := LTZ.out; have hs2 := LTO.out; have hs3 := LH.out; first | omega | (simp <;> omega)) _))
  have X1 := Lib.hid (show Bx 55 w1 (w.heap.size) #[.int .i64 x.Start, .slice A0 n0 c0] by rw [← hW]; exact (X0.out.other (by have hs0 := LTX.out; have hs1 := LTZ.out; have hs2 := LTO.out; have hs3 := LH.out; first | omega | (simp <;> omega)) _ _))
  have Z1 := Lib.hid (show Bx 31 w1 (w.heap.size + 1) #[.int .i64 0, .slice none 0 0] by rw [← hW]; exact (Z0.out.other (by have hs0 := LTX.out; have hs1 := LTZ.out; have hs2 := LTO.out; have hs3 := LH.out; first | omega | (simp <;> omega)) _ _))
  have O1 := Lib.hid (show Bx 31 w1 (w.heap.size + 1 + 1) #[.int .i64 x.Start, .slice none 0 0] by rw [← hW]; exact (O0.out.set 0 _))
  have P01 := Lib.hid (show RR rowNf w1 lo hi (.slice A0 n0 c0) x.Pending by rw [← hW]; exact (P00.out.same (by simp [World.setCell]) fun b h1 h2 => by rw [Below.heap_setCell _ _ _ _ (by have hs0 := LTX.out; have hs1 := LTZ.out; have hs2 := LTO.out; have hs3 := LH.out; first | omega | (simp <;> omega))]))
  clear hW B0 X0 Z0 O0 P00
  have SP1 := Lib.hid O1.out.lt
  (with_reducible refine (toNumberedFrameS P01.out HS0.out).mono ?_)
  rintro e w2 hp
  obtain ⟨u0, f0, rfl, ho, hb⟩ := hp.parts
  obtain ⟨Ab0, nb0, cb0, rfl⟩ := rowNf_slo ho.1
  clear hp
  have SS2 := Lib.hid hb.size
  have B2 := Lib.hid (B1.out.trans (hb.mono B1.out.size))
  have X2 := Lib.hid (X1.out.below hb)
  have Z2 := Lib.hid (Z1.out.below hb)
  have O2 := Lib.hid (O1.out.below hb)
  have P02 := Lib.hid (P01.out.below hb)
  clear hb B1 X1 Z1 O1 P01
  have N02 := Lib.hid ho
  clear ho
  have cX0 : w2.cell? ⟨w.heap.size, 0, none⟩ = some (.int .i64 x.Start) := X2.out.cell 0
  have cX1 : w2.cell? ⟨w.heap.size, 1, none⟩ = some (.slice A0 n0 c0) := X2.out.cell 1
  have cO0 : w2.cell? ⟨w.heap.size + 1 + 1, 0, none⟩ = some (.int .i64 x.Start) := O2.out.cell 0
  have cO1 : w2.cell? ⟨w.heap.size + 1 + 1, 1, none⟩ = some (.slice none 0 0) := O2.out.cell 1
  have fO0 : w2.frozen? ⟨w.heap.size + 1 + 1, 0, none⟩ = false := O2.out.free 0
  have fO1 : w2.frozen? ⟨w.heap.size + 1 + 1, 1, none⟩ = false := O2.out.free 1
  go_upto_region 4 with fail
  clear cX0 cX1 cO0 cO1 fO0 fO1
  have hWW : (w2.setCell ⟨w.heap.size + 1 + 1, 1, none⟩ (.slice Ab0 nb0 cb0)) = (w2.setCell ⟨w.heap.size + 1 + 1, 1, none⟩ (.slice Ab0 nb0 cb0)) := rfl
  obtain ⟨w3, hW⟩ : ∃ wy, (w2.setCell ⟨w.heap.size + 1 + 1, 1, none⟩ (.slice Ab0 nb0 cb0)) = wy := ⟨_, rfl⟩
  rw [hW]
  clear hWW
  have B3 := Lib.hid (show Below w.heap.size w w3 by rw [← hW]; exact (B2.out.setCell (p := ⟨w.heap.size + 1 + 1, 1, none⟩) (by have hs0 := LTX.out; have hs1 := LTZ.out; have hs2 := LTO.out; have hs3 := LH.out; have hs4 := SP1.out; have hs5 := SS2.out; first | omega | (simp <;> omega)) _))
  have X3 := Lib.hid (show Bx 55 w3 (w.heap.size) #[.int .i64 x.Start, .slice A0 n0 c0] by rw [← hW]; exact (X2.out.other (by have hs0 := LTX.out; have hs1 := LTZ.out; have hs2 := LTO.out; have hs3 := LH.out; have hs4 := SP1.out; have hs5 := SS2.out; first | omega | (simp <;> omega)) _ _))
  have Z3 := Lib.hid (show Bx 31 w3 (w.heap.size + 1) #[.int .i64 0, .slice none 0 0] by rw [← hW]; exact (Z2.out.other (by have hs0 := LTX.out; have hs1 := LTZ.out; have hs2 := LTO.out; have hs3 := LH.out; have hs4 := SP1.out; have hs5 := SS2.out; first | omega | (simp <;> omega)) _ _))
  have O3 := Lib.hid (show Bx 31 w3 (w.heap.size + 1 + 1) #[.int .i64 x.Start, .slice Ab0 nb0 cb0] by rw [← hW]; exact (O2.out.set 1 _))
  have P03 := Lib.hid (show RR rowNf w3 lo hi (.slice A0 n0 c0) x.Pending by rw [← hW]; exact (P02.out.same (by simp [World.setCell]) fun b h1 h2 => by rw [Below.heap_setCell _ _ _ _ (by have hs0 := LTX.out; have hs1 := LTZ.out; have hs2 := LTO.out; have hs3 := LH.out; have hs4 := SP1.out; have hs5 := SS2.out; first | omega | (simp <;> omega))]))
  have N03 := Lib.hid (show OO rowNf w3 w1.heap.size w2.heap.size f0 (.slice Ab0 nb0 cb0) x.Pending by rw [← hW]; exact (N02.out.same (by simp [World.setCell]) fun b h1 h2 => by rw [Below.heap_setCell _ _ _ _ (by have hs0 := LTX.out; have hs1 := LTZ.out; have hs2 := LTO.out; have hs3 := LH.out; have hs4 := SP1.out; have hs5 := SS2.out; first | omega | (simp <;> omega))]))
  clear hW B2 X2 Z2 O2 P02 N02
  go_wp2_with (first | (refine stw.list_load rfl 31 _ rfl (w.heap.size + 1 + 1) rfl 31 _ O3.out Try.underlying31 rfl szRob ?_) | (refine stw.list_store rfl 31 _ _ rfl (w.heap.size + 1) #[.int .i64 x.Start, .slice Ab0 nb0 cb0] rfl rfl 31 _ Z3.out rfl szRob (oneRob _ _ _ _) ?_; intro wz4 hz))
  have B4 := Lib.hid (hz.on B3.out (by have hs0 := LTX.out; have hs1 := LTZ.out; have hs2 := LTO.out; have hs3 := LH.out; have hs4 := SP1.out; have hs5 := SS2.out; first | omega | (simp <;> omega)))
  have X4 := Lib.hid (hz.keep X3.out (by have hs0 := LTX.out; have hs1 := LTZ.out; have hs2 := LTO.out; have hs3 := LH.out; have hs4 := SP1.out; have hs5 := SS2.out; first | omega | (simp <;> omega)))
  have Z4 := Lib.hid (hz.box)
  have O4 := Lib.hid (hz.keep O3.out (by have hs0 := LTX.out; have hs1 := LTZ.out; have hs2 := LTO.out; have hs3 := LH.out; have hs4 := SP1.out; have hs5 := SS2.out; first | omega | (simp <;> omega)))
  have P04 := Lib.hid (P03.out.same hz.below.size fun b h1 h2 => hz.other b (by have hs0 := LTX.out; have hs1 := LTZ.out; have hs2 := LTO.out; have hs3 := LH.out; have hs4 := SP1.out; have hs5 := SS2.out; first | omega | (simp <;> omega)))
  have N04 := Lib.hid (N03.out.same hz.below.size fun b h1 h2 => hz.other b (by have hs0 := LTX.out; have hs1 := LTZ.out; have hs2 := LTO.out; have hs3 := LH.out; have hs4 := SP1.out; have hs5 := SS2.out; first | omega | (simp <;> omega)))
  clear hz B3 X3 Z3 O3 P03 N03
  (try simp only [Exit.inBlock, Exit.then])
  refine bodyPost_ret (v := .agg #[.int .i64 x.Start, .slice Ab0 nb0 cb0]) ?_ rfl ?_
  · rw [results_cell1 rfl]
    exact stw.back Z4.out Try.underlying31 rfl szRob
  · exact ⟨_, _, rfl, rob_mk (N04.out.wide (by have hs0 := LTX.out; have hs1 := LTZ.out; have hs2 := LTO.out; have hs3 := LH.out; have hs4 := SP1.out; have hs5 := SS2.out;  first | omega | (simp <;> omega))) (rowNf.nd N04.out.1), B4.out⟩
set_option maxRecDepth 100000 in
set_option maxHeartbeats 4000000 in
theorem eqReorderBuffer {w : World} {lo hi lo2 hi2 : Nat} {v u : Value} {x : Rob} (h : RR rob w lo hi v x) (h2 : RR rob w lo2 hi2 u x) :
    Calls Try.prog 32 #[v, u] w (BPost true w) := by
  have LH := Lib.hid h.hi_
  have LH2 := Lib.hid h2.hi_
  obtain ⟨A0, n0, c0, rfl, g0⟩ := rob_r h
  obtain ⟨Ab0, nb0, cb0, rfl, gb0⟩ := rob_r h2
  have P0W := Lib.hid g0
  have Q0W := Lib.hid gb0
  clear h h2 g0 gb0
  go_enter Try.func32, Try.ntmps32
  go_wp2_with fail
  obtain ⟨w0, hW⟩ : ∃ w0, (w.alloc (.cells #[.int .i64 x.Start, .slice A0 n0 c0] 31)).alloc (.cells #[.int .i64 x.Start, .slice Ab0 nb0 cb0] 31) = w0 := ⟨_, rfl⟩
  rw [hW]
  have B0 := Lib.hid (show Below w.heap.size w w0 by rw [← hW]; exact ((Below.refl _ _).alloc (by simp <;> omega) _).alloc (by simp <;> omega) _)
  have X0 := Lib.hid (show Bx 31 w0 (w.heap.size) #[.int .i64 x.Start, .slice A0 n0 c0] by
      rw [← hW]
      have hh := Bx.made 31 w #[.int .i64 x.Start, .slice A0 n0 c0]
      exact (hh.below (below_box _ _)))
  have Y0 := Lib.hid (show Bx 31 w0 (w.heap.size + 1) #[.int .i64 x.Start, .slice Ab0 nb0 cb0] by
      rw [← hW]
      have hh : Bx 31 ((w.alloc (.cells #[.int .i64 x.Start, .slice A0 n0 c0] 31)).alloc (.cells #[.int .i64 x.Start, .slice Ab0 nb0 cb0] 31)) (w.heap.size + 1) #[.int .i64 x.Start, .slice Ab0 nb0 cb0] := by have hh := Bx.made 31 (w.alloc (.cells #[.int .i64 x.Start, .slice A0 n0 c0] 31)) #[.int .i64 x.Start, .slice Ab0 nb0 cb0]; simpa using hh
      exact hh)
  have P00 := Lib.hid (show RR rowNf w0 lo hi (.slice A0 n0 c0) x.Pending by rw [← hW]; exact ((P0W.out.below (below_box _ _)).below (below_box _ _)))
  have Q00 := Lib.hid (show RR rowNf w0 lo2 hi2 (.slice Ab0 nb0 cb0) x.Pending by rw [← hW]; exact ((Q0W.out.below (below_box _ _)).below (below_box _ _)))
  clear hW
  have LTX := Lib.hid X0.out.lt
  have LTY := Lib.hid Y0.out.lt
  (with_reducible refine (eqNumberedFrameS P00.out Q00.out).mono ?_)
  rintro e w1 ⟨rfl, hb⟩
  have SS1 := Lib.hid hb.size
  have B1 := Lib.hid (B0.out.trans (hb.mono B0.out.size))
  have X1 := Lib.hid (X0.out.below hb)
  have Y1 := Lib.hid (Y0.out.below hb)
  have P01 := Lib.hid (P00.out.below hb)
  have Q01 := Lib.hid (Q00.out.below hb)
  clear hb B0 X0 Y0 P00 Q00
  have cX0 : w1.cell? ⟨w.heap.size, 0, none⟩ = some (.int .i64 x.Start) := X1.out.cell 0
  have cX1 : w1.cell? ⟨w.heap.size, 1, none⟩ = some (.slice A0 n0 c0) := X1.out.cell 1
  have cY0 : w1.cell? ⟨w.heap.size + 1, 0, none⟩ = some (.int .i64 x.Start) := Y1.out.cell 0
  have cY1 : w1.cell? ⟨w.heap.size + 1, 1, none⟩ = some (.slice Ab0 nb0 cb0) := Y1.out.cell 1
  go_wp2_with fail
  clear cX0 cX1 cY0 cY1
  go_ret
  exact ⟨rfl, B1.out⟩
def rob_mv (q : Int) (x : Rob) : Rob := { x with Pending := rowNf.mkx (q) x.Pending }
def rob_tv (x : Rob) : Nat := rowNf.tot x.Pending
set_option maxRecDepth 100000 in
set_option maxHeartbeats 4000000 in
theorem markReorderBuffer {w : World} {lo hi : Nat} {fp : List Nat} {v : Value} {x : Rob} (q : Int) (h : OO rob w lo hi fp v x) (hq : 0 ≤ q ∧ q + (rob_tv x : Nat) ≤ 1099511627776) (hs : rob.sz x ≤ 67108864) :
    Calls Try.prog 33 #[v, .int .i64 q] w (MkPost rob (rob_mv q x) (q + (rob_tv x : Nat)) lo hi fp v w) := by
  obtain ⟨A0, n0, c0, f0, rfl, g0, hf, hn⟩ := rob_o h
  have HH := Lib.hid h.hi_
  have P0 := Lib.hid (g0.below (below_box w (.cells #[.int .i64 x.Start, .slice A0 n0 c0] 31)))
  have LT0 := Lib.hid (S_lt g0)
  have hq2 : 0 ≤ q ∧ q + (rowNf.tot x.Pending : Nat) ≤ 1099511627776 := hq
  have HQ := Lib.hid hq2
  have HS := Lib.hid (show rowNf.sz x.Pending ≤ 67108864 from hs)
  subst hf
  clear h g0 hq hs hq2
  go_enter Try.func33, Try.ntmps33
  go_wp2_with fail
  (with_reducible refine (markNumberedFrameS q P0.out HQ.out HS.out).mono ?_)
  rintro e w1 hp
  obtain ⟨rfl, ho, hk⟩ := hp.parts
  have O1 := Lib.hid ho
  have K1 := Lib.hid ((ks_below (below_box w (.cells #[.int .i64 x.Start, .slice A0 n0 c0] 31)) fp).trans hk)
  clear hp ho hk
  go_wp2_with fail
  go_ret
  exact ⟨rfl, rob_mk (x := rob_mv q x) O1.out hn, K1.out⟩
set_option maxRecDepth 100000 in
set_option maxHeartbeats 4000000 in
theorem heldReorderBuffer {w : World} {lo hi : Nat} {v : Value} {x : Rob} (q : Int) (h : RR rob w lo hi v (rob_mv q x)) (hq : 0 ≤ q ∧ q + (rob_tv x : Nat) ≤ 1099511627776) (hs : rob.sz x ≤ 67108864) :
    Calls Try.prog 34 #[v, .int .i64 q] w (NPost (q + (rob_tv x : Nat)) w) := by
  obtain ⟨A0, n0, c0, rfl, g0⟩ := rob_r h
  have P0 := Lib.hid (show RR rowNf (w.alloc (.cells #[.int .i64 x.Start, .slice A0 n0 c0] 31)) lo hi (.slice A0 n0 c0) (rowNf.mkx q x.Pending) from g0.below (below_box _ _))
  have hq2 : 0 ≤ q ∧ q + (rowNf.tot x.Pending : Nat) ≤ 1099511627776 := hq
  have HQ := Lib.hid hq2
  have HS := Lib.hid (show rowNf.sz x.Pending ≤ 67108864 from hs)
  show Calls Try.prog 34 #[robV x (.slice A0 n0 c0), .int .i64 q] w (NPost (q + (rowNf.tot x.Pending : Nat)) w)
  obtain ⟨t, ht⟩ : ∃ t, q + (rowNf.tot x.Pending : Nat) = t := ⟨_, rfl⟩
  have hng : ¬ t < 0 := by omega
  have HT := Lib.hid ht
  rw [ht]
  clear h g0 hq hs hq2 ht
  go_enter Try.func34, Try.ntmps34
  go_wp2_with fail
  (with_reducible refine (heldNumberedFrameS q P0.out HQ.out HS.out).mono ?_)
  rw [HT.out]
  rintro e w1 ⟨rfl, hb⟩
  have B1 := Lib.hid ((below_box w (.cells #[.int .i64 x.Start, .slice A0 n0 c0] 31)).trans (hb.mono (by simp)))
  clear hb
  go_wp2_with fail
  go_ret
  exact ⟨rfl, B1.out⟩
end Go.Proofs.Ytmmhleobgpgliaa.ux
