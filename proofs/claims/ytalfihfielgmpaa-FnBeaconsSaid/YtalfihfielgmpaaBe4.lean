/- EncodeBeacon and DecodeBeacon, program and specification. Condition: up to 2^26 bytes. -/
import Derived.Test.YtalfihfielgmpaaBe1
import Derived.Test.YtalfihfielgmpaaEq
import Derived.Test.YtalfihfielgmpaaRwv
namespace Go.Proofs.Ytalfihfielgmpaa.be
open Go.RowKit sl harn rng bx stw bcm
set_option linter.unusedVariables false
set_option linter.unusedSimpArgs false
open uvs

theorem no_bytes {w w' : World} {zs : List Int} (h : zs = []) (hb : Below w.heap.size w w') : SlPost 5 .u8 w zs (.returned (.slice (some ⟨w'.heap.size, 0, none⟩) 0 0)) (w'.alloc (.cells #[] 5)) := by
  subst h
  exact ⟨_, _, _, rfl, (Ow.empty 5 .u8 w').up.down hb.size, hb.alloc hb.size _⟩
set_option maxRecDepth 100000 in
set_option maxHeartbeats 4000000 in
theorem implEb (f s c d : Int) (g : Bool) (t : Int) (w : World) :
    Calls Try.prog 16 #[.agg #[.int .i64 f, .int .i64 s, .int .i64 c, .int .i64 d, .bool g, .int .i64 t]] w (SlPost 5 .u8 w (eb ⟨f, s, c, d, g, t⟩)) := by
  obtain ⟨v, hv⟩ : ∃ x, vb ⟨f, s, c, d, g, t⟩ = x := ⟨_, rfl⟩
  have HV := Lib.hid hv
  clear hv
  go_enter Try.func16, Try.ntmps16
  go_wp2_with fail
  obtain ⟨w0, hW⟩ : ∃ w0, w.alloc (.cells #[.int .i64 f, .int .i64 s, .int .i64 c, .int .i64 d, .bool g, .int .i64 t] 25) = w0 := ⟨_, rfl⟩
  rw [hW]
  have B0 := Lib.hid (show Below w.heap.size w w0 by rw [← hW]; exact (Below.refl _ _).alloc (by simp <;> omega) _)
  have X0 := Lib.hid (show Bx 25 w0 (w.heap.size) #[.int .i64 f, .int .i64 s, .int .i64 c, .int .i64 d, .bool g, .int .i64 t] by
      rw [← hW]
      have hh := Bx.made 25 w #[.int .i64 f, .int .i64 s, .int .i64 c, .int .i64 d, .bool g, .int .i64 t]
      exact hh)
  clear hW
  have LTX := Lib.hid X0.out.lt
  go_wp2_with (refine stw.list_load rfl 25 _ rfl (w.heap.size) rfl 25 _ X0.out Try.underlying25 rfl szB ?_)
  (with_reducible refine (implVb f s c d g t _).mono ?_)
  rintro e w1 hp
  obtain ⟨rfl, hb⟩ := b_parts HV.out hp
  clear hp
  have SS1 := Lib.hid hb.size
  have B1 := Lib.hid (B0.out.trans (hb.mono B0.out.size))
  have X1 := Lib.hid (X0.out.below hb)
  clear hb  B0 X0
  cases v with
  | true =>
    have hv : Vb ⟨f, s, c, d, g, t⟩ := of_decide_eq_true HV.out
    cases g with
    | true =>
      have HE := Lib.hid (show eb ⟨f, s, c, d, true, t⟩ = encs [f, s, c, d, 1, t] from eb_yes hv)
      have HW := Lib.hid (show Wf .i64 [f, s, c, d, 1, t] from nums_wf hv)
      clear hv
      have cX0 : w1.cell? ⟨w.heap.size, 0, none⟩ = some (.int .i64 f) := X1.out.cell 0
      have cX1 : w1.cell? ⟨w.heap.size, 1, none⟩ = some (.int .i64 s) := X1.out.cell 1
      have cX2 : w1.cell? ⟨w.heap.size, 2, none⟩ = some (.int .i64 c) := X1.out.cell 2
      have cX3 : w1.cell? ⟨w.heap.size, 3, none⟩ = some (.int .i64 d) := X1.out.cell 3
      have cX4 : w1.cell? ⟨w.heap.size, 4, none⟩ = some (.bool true) := X1.out.cell 4
      have cX5 : w1.cell? ⟨w.heap.size, 5, none⟩ = some (.int .i64 t) := X1.out.cell 5
      go_wp2_with fail
      clear cX0 cX1 cX2 cX3 cX4 cX5
      have HO := Lib.hid (Ow.lit (k := .i64) (E := 3) (n := 6) w1 #[.int .i64 f, .int .i64 s, .int .i64 c, .int .i64 d, .int .i64 1, .int .i64 t] [f, s, c, d, 1, t] rfl HW.out (by simp [maxLen]) rfl).rd
      (with_reducible refine (implEncs _ _ (some ⟨w1.heap.size, 0, none⟩) 6 6 [f, s, c, d, 1, t] _ HO.out (by omega)).mono ?_)
      rintro e w8 ⟨A4, n4, c4, rfl, ho, hb⟩
      have B8 := Lib.hid ((B1.out.alloc B1.out.size (.cells #[.int .i64 f, .int .i64 s, .int .i64 c, .int .i64 d, .int .i64 1, .int .i64 t] 3)).trans (hb.mono (by have h1 := B1.out.size; simp; omega)))
      have O8 := Lib.hid (ho.down (lo2 := w.heap.size) (by have h1 := B1.out.size; simp; omega))
      clear ho hb HO
      go_wp2_with fail
      go_ret
      rw [HE.out]
      exact ⟨_, _, _, rfl, O8.out, B8.out⟩
    | false =>
      have HE := Lib.hid (show eb ⟨f, s, c, d, false, t⟩ = encs [f, s, c, d, 0, t] from eb_yes hv)
      have HW := Lib.hid (show Wf .i64 [f, s, c, d, 0, t] from nums_wf hv)
      clear hv
      have cX0 : w1.cell? ⟨w.heap.size, 0, none⟩ = some (.int .i64 f) := X1.out.cell 0
      have cX1 : w1.cell? ⟨w.heap.size, 1, none⟩ = some (.int .i64 s) := X1.out.cell 1
      have cX2 : w1.cell? ⟨w.heap.size, 2, none⟩ = some (.int .i64 c) := X1.out.cell 2
      have cX3 : w1.cell? ⟨w.heap.size, 3, none⟩ = some (.int .i64 d) := X1.out.cell 3
      have cX4 : w1.cell? ⟨w.heap.size, 4, none⟩ = some (.bool false) := X1.out.cell 4
      have cX5 : w1.cell? ⟨w.heap.size, 5, none⟩ = some (.int .i64 t) := X1.out.cell 5
      go_wp2_with fail
      clear cX0 cX1 cX2 cX3 cX4 cX5
      have HO := Lib.hid (Ow.lit (k := .i64) (E := 3) (n := 6) w1 #[.int .i64 f, .int .i64 s, .int .i64 c, .int .i64 d, .int .i64 0, .int .i64 t] [f, s, c, d, 0, t] rfl HW.out (by simp [maxLen]) rfl).rd
      (with_reducible refine (implEncs _ _ (some ⟨w1.heap.size, 0, none⟩) 6 6 [f, s, c, d, 0, t] _ HO.out (by omega)).mono ?_)
      rintro e w8 ⟨A4, n4, c4, rfl, ho, hb⟩
      have B8 := Lib.hid ((B1.out.alloc B1.out.size (.cells #[.int .i64 f, .int .i64 s, .int .i64 c, .int .i64 d, .int .i64 0, .int .i64 t] 3)).trans (hb.mono (by have h1 := B1.out.size; simp; omega)))
      have O8 := Lib.hid (ho.down (lo2 := w.heap.size) (by have h1 := B1.out.size; simp; omega))
      clear ho hb HO
      go_wp2_with fail
      go_ret
      rw [HE.out]
      exact ⟨_, _, _, rfl, O8.out, B8.out⟩
  | false =>
    have HE := Lib.hid (eb_no (of_decide_eq_false HV.out))
    go_wp2_with fail
    go_ret
    exact no_bytes HE.out B1.out
set_option maxRecDepth 100000 in
set_option maxHeartbeats 4000000 in
theorem specEb (f s c d : Int) (g : Bool) (t : Int) (w : World) :
    Calls Try.prog 26 #[.agg #[.int .i64 f, .int .i64 s, .int .i64 c, .int .i64 d, .bool g, .int .i64 t]] w (SlPost 5 .u8 w (eb ⟨f, s, c, d, g, t⟩)) := by
  obtain ⟨v, hv⟩ : ∃ x, vb ⟨f, s, c, d, g, t⟩ = x := ⟨_, rfl⟩
  have HV := Lib.hid hv
  clear hv
  go_enter Try.func26, Try.ntmps26
  go_wp2_with fail
  obtain ⟨w0, hW⟩ : ∃ w0, w.alloc (.cells #[.int .i64 f, .int .i64 s, .int .i64 c, .int .i64 d, .bool g, .int .i64 t] 25) = w0 := ⟨_, rfl⟩
  rw [hW]
  have B0 := Lib.hid (show Below w.heap.size w w0 by rw [← hW]; exact (Below.refl _ _).alloc (by simp <;> omega) _)
  have X0 := Lib.hid (show Bx 25 w0 (w.heap.size) #[.int .i64 f, .int .i64 s, .int .i64 c, .int .i64 d, .bool g, .int .i64 t] by
      rw [← hW]
      have hh := Bx.made 25 w #[.int .i64 f, .int .i64 s, .int .i64 c, .int .i64 d, .bool g, .int .i64 t]
      exact hh)
  clear hW
  have LTX := Lib.hid X0.out.lt
  go_wp2_with (refine stw.list_load rfl 25 _ rfl (w.heap.size) rfl 25 _ X0.out Try.underlying25 rfl szB ?_)
  (with_reducible refine (specVb f s c d g t _).mono ?_)
  rintro e w1 hp
  obtain ⟨rfl, hb⟩ := b_parts HV.out hp
  clear hp
  have SS1 := Lib.hid hb.size
  have B1 := Lib.hid (B0.out.trans (hb.mono B0.out.size))
  have X1 := Lib.hid (X0.out.below hb)
  clear hb  B0 X0
  cases v with
  | true =>
    have hv : Vb ⟨f, s, c, d, g, t⟩ := of_decide_eq_true HV.out
    cases g with
    | true =>
      have HE := Lib.hid (show eb ⟨f, s, c, d, true, t⟩ = encs [f, s, c, d, 1, t] from eb_yes hv)
      have HW := Lib.hid (show Wf .i64 [f, s, c, d, 1, t] from nums_wf hv)
      clear hv
      have cX0 : w1.cell? ⟨w.heap.size, 0, none⟩ = some (.int .i64 f) := X1.out.cell 0
      have cX1 : w1.cell? ⟨w.heap.size, 1, none⟩ = some (.int .i64 s) := X1.out.cell 1
      have cX2 : w1.cell? ⟨w.heap.size, 2, none⟩ = some (.int .i64 c) := X1.out.cell 2
      have cX3 : w1.cell? ⟨w.heap.size, 3, none⟩ = some (.int .i64 d) := X1.out.cell 3
      have cX4 : w1.cell? ⟨w.heap.size, 4, none⟩ = some (.bool true) := X1.out.cell 4
      have cX5 : w1.cell? ⟨w.heap.size, 5, none⟩ = some (.int .i64 t) := X1.out.cell 5
      go_wp2_with fail
      clear cX0 cX1 cX2 cX3 cX4 cX5
      have HO := Lib.hid (Ow.lit (k := .i64) (E := 3) (n := 6) w1 #[.int .i64 f, .int .i64 s, .int .i64 c, .int .i64 d, .int .i64 1, .int .i64 t] [f, s, c, d, 1, t] rfl HW.out (by simp [maxLen]) rfl).rd
      (with_reducible refine (specEncs _ _ (some ⟨w1.heap.size, 0, none⟩) 6 6 [f, s, c, d, 1, t] _ HO.out (by omega)).mono ?_)
      rintro e w8 ⟨A4, n4, c4, rfl, ho, hb⟩
      have B8 := Lib.hid ((B1.out.alloc B1.out.size (.cells #[.int .i64 f, .int .i64 s, .int .i64 c, .int .i64 d, .int .i64 1, .int .i64 t] 3)).trans (hb.mono (by have h1 := B1.out.size; simp; omega)))
      have O8 := Lib.hid (ho.down (lo2 := w.heap.size) (by have h1 := B1.out.size; simp; omega))
      clear ho hb HO
      go_wp2_with fail
      go_ret
      rw [HE.out]
      exact ⟨_, _, _, rfl, O8.out, B8.out⟩
    | false =>
      have HE := Lib.hid (show eb ⟨f, s, c, d, false, t⟩ = encs [f, s, c, d, 0, t] from eb_yes hv)
      have HW := Lib.hid (show Wf .i64 [f, s, c, d, 0, t] from nums_wf hv)
      clear hv
      have cX0 : w1.cell? ⟨w.heap.size, 0, none⟩ = some (.int .i64 f) := X1.out.cell 0
      have cX1 : w1.cell? ⟨w.heap.size, 1, none⟩ = some (.int .i64 s) := X1.out.cell 1
      have cX2 : w1.cell? ⟨w.heap.size, 2, none⟩ = some (.int .i64 c) := X1.out.cell 2
      have cX3 : w1.cell? ⟨w.heap.size, 3, none⟩ = some (.int .i64 d) := X1.out.cell 3
      have cX4 : w1.cell? ⟨w.heap.size, 4, none⟩ = some (.bool false) := X1.out.cell 4
      have cX5 : w1.cell? ⟨w.heap.size, 5, none⟩ = some (.int .i64 t) := X1.out.cell 5
      go_wp2_with fail
      clear cX0 cX1 cX2 cX3 cX4 cX5
      have HO := Lib.hid (Ow.lit (k := .i64) (E := 3) (n := 6) w1 #[.int .i64 f, .int .i64 s, .int .i64 c, .int .i64 d, .int .i64 0, .int .i64 t] [f, s, c, d, 0, t] rfl HW.out (by simp [maxLen]) rfl).rd
      (with_reducible refine (specEncs _ _ (some ⟨w1.heap.size, 0, none⟩) 6 6 [f, s, c, d, 0, t] _ HO.out (by omega)).mono ?_)
      rintro e w8 ⟨A4, n4, c4, rfl, ho, hb⟩
      have B8 := Lib.hid ((B1.out.alloc B1.out.size (.cells #[.int .i64 f, .int .i64 s, .int .i64 c, .int .i64 d, .int .i64 0, .int .i64 t] 3)).trans (hb.mono (by have h1 := B1.out.size; simp; omega)))
      have O8 := Lib.hid (ho.down (lo2 := w.heap.size) (by have h1 := B1.out.size; simp; omega))
      clear ho hb HO
      go_wp2_with fail
      go_ret
      rw [HE.out]
      exact ⟨_, _, _, rfl, O8.out, B8.out⟩
  | false =>
    have HE := Lib.hid (eb_no (of_decide_eq_false HV.out))
    go_wp2_with fail
    go_ret
    exact no_bytes HE.out B1.out
set_option maxRecDepth 100000 in
set_option maxHeartbeats 4000000 in
theorem implDb (zs : List Int) (lo hi : Nat) (A : Option Addr) (n cap : Nat) (w : World) (h : Rd .u8 w lo hi A n cap zs) (hn : n ≤ 67108864) :
    Calls Try.prog 15 #[.slice A n cap] w (DPost (db zs) w) := by
  have RW := Lib.hid h
  have HBZ := Lib.hid (show Byt zs from h.wf.u8)
  have HLN := Lib.hid h.len
  have LHI := Lib.hid (show hi ≤ w.heap.size from h.hi_)
  obtain ⟨l, i, ok, hdv⟩ : ∃ l i ok, dv zs 0 6 = (l, i, ok) := ⟨_, _, _, rfl⟩
  have HDV := Lib.hid hdv
  clear h hdv
  go_enter Try.func15, Try.ntmps15
  go_upto_region 1 with fail
  obtain ⟨w0, hW⟩ : ∃ w0, w.alloc (.cells #[.int .i64 0, .int .i64 0, .int .i64 0, .int .i64 0, .bool false, .int .i64 0] 25) = w0 := ⟨_, rfl⟩
  rw [hW]
  have B0 := Lib.hid (show Below w.heap.size w w0 by rw [← hW]; exact (Below.refl _ _).alloc (by simp <;> omega) _)
  have Z0 := Lib.hid (show Bx 25 w0 (w.heap.size) #[.int .i64 0, .int .i64 0, .int .i64 0, .int .i64 0, .bool false, .int .i64 0] by
      rw [← hW]
      have hh := Bx.made 25 w #[.int .i64 0, .int .i64 0, .int .i64 0, .int .i64 0, .bool false, .int .i64 0]
      exact hh)
  have R0 := Lib.hid (show Rd .u8 w0 (lo) (hi) A n cap zs by rw [← hW]; exact (RW.out.below (below_box _ _)))
  clear hW
  have LTZ := Lib.hid Z0.out.lt
  go_wp2_with fail
  (with_reducible refine (implDv _ _ A n cap zs 0 6 _ R0.out (by omega)).mono ?_)
  rintro en w1 hp
  obtain ⟨A2, n2, c2, rfl, ho, hb⟩ := hp.parts HDV.out
  clear hp
  have SS1 := Lib.hid hb.size
  have B1 := Lib.hid (B0.out.trans (hb.mono B0.out.size))
  have Z1 := Lib.hid (Z0.out.below hb)
  have R1 := Lib.hid (R0.out.below hb)
  clear hb B0 Z0 R0
  have N1 := Lib.hid ho
  clear ho
  cases ok with
  | true =>
    obtain ⟨g1, g2, g3, g4, g5⟩ := dv_ok HBZ.out HDV.out
    obtain ⟨a, b, c, d, e, m, rfl⟩ := six g1
    obtain rfl : n2 = 6 := by have h1 := N1.out.len; simpa using h1.symm
    obtain ⟨g, rfl, _⟩ := own.own_some N1.out (by omega)
    have he0 : 0 ≤ e := (g2 e (by simp)).1
    obtain ⟨x, hx⟩ : ∃ x, (e == 1) = x := ⟨_, rfl⟩
    have HOF := Lib.hid (show bcOf [a, b, c, d, e, m] = ⟨a, b, c, d, x, m⟩ by rw [← hx]; show (⟨a, b, c, d, decide (e = 1), m⟩ : Bc) = _; congr 1)
    clear g1 g2 g5
    clear g3 g4 he0
    go_upto_region 4 with fail
    refine reg.region_tail reg.Bel 21 44 [some [], some [(0, 17)], some [(1, 18)], some [], some [(3, 20)], some [(4, 21)], some [], some [(6, 23)], some [(7, 24)], some [], some [(9, 26)], some [(10, 27)], some [], some [(12, 29)], some [(13, 30)], some [(14, 31)], some [], some [(16, 33)], some [(17, 34)], some [(2, 19), (5, 22), (8, 25), (11, 28), (15, 32), (18, 35)], some [], none] [(0, 17), (1, 18), (2, 19), (3, 20), (4, 21), (5, 22), (6, 23), (7, 24), (8, 25), (9, 26), (10, 27), (11, 28), (12, 29), (13, 30), (14, 31), (15, 32), (16, 33), (17, 34), (18, 35), (19, 36), (20, 7)]
      (fun w' => Below w.heap.size w w' ∧ Bx 25 w' (w.heap.size) #[.int .i64 0, .int .i64 0, .int .i64 0, .int .i64 0, .bool false, .int .i64 0] ∧ Rd .u8 w' (lo) (hi) A n cap zs ∧ Ow 3 .i64 w' (w0.heap.size) (w1.heap.size) (some ⟨g, 0, none⟩) 6 c2 [a, b, c, d, e, m] ∧ True)
      (reg.rl [reg.is (.slice (some ⟨g, 0, none⟩) 6 c2), reg.is (.pointer (some ⟨g, 0, none⟩)), reg.is (.int .i64 a), reg.is (.slice (some ⟨g, 0, none⟩) 6 c2), reg.is (.pointer (some ⟨g, 1, none⟩)), reg.is (.int .i64 b), reg.is (.slice (some ⟨g, 0, none⟩) 6 c2), reg.is (.pointer (some ⟨g, 2, none⟩)), reg.is (.int .i64 c), reg.is (.slice (some ⟨g, 0, none⟩) 6 c2), reg.is (.pointer (some ⟨g, 3, none⟩)), reg.is (.int .i64 d), reg.is (.slice (some ⟨g, 0, none⟩) 6 c2), reg.is (.pointer (some ⟨g, 4, none⟩)), reg.is (.int .i64 e), reg.is (.bool x), reg.is (.slice (some ⟨g, 0, none⟩) 6 c2), reg.is (.pointer (some ⟨g, 5, none⟩)), reg.is (.int .i64 m), reg.is (.agg #[.int .i64 a, .int .i64 b, .int .i64 c, .int .i64 d, .bool x, .int .i64 m]), stw.mk 25 (w.heap.size) #[.int .i64 0, .int .i64 0, .int .i64 0, .int .i64 0, .bool false, .int .i64 0], reg.free])
      (by kernel_rfl) rfl (by kernel_rfl) (by kernel_rfl) rfl
      (fun w1 w2 hc hb => ⟨hc.1.trans (hb.mono hc.1.size), hc.2.1.below hb, hc.2.2.1.below hb, hc.2.2.2.1.below hb, trivial⟩) (reg.rl_keep _) (⟨own.below_drew B1.out, Z1.out.same rfl, own.rd_drew R1.out, own.ow_drew N1.out, trivial⟩) (by kernel_rfl) ⟨?_, ?_, ?_, ?_, ?_, ?_, ?_, ?_, ?_, ?_, ?_, ?_, ?_, ?_, ?_, ?_, ?_, ?_, ?_, ?_, ?_, trivial⟩ ?_
    · refine fun w8 hc  K hK => ?_
      (try simp only [Act.put, List.setIfInBounds_toArray, List.set_cons_zero, List.set_cons_succ])
      go_simp
      exact hK (.slice (some ⟨g, 0, none⟩) 6 c2) _ rfl (Below.refl _ _)
    · refine fun w8 hc v0 h0 K hK => ?_
      obtain rfl : v0 = .slice (some ⟨g, 0, none⟩) 6 c2 := h0
      (try simp only [Act.put, List.setIfInBounds_toArray, List.set_cons_zero, List.set_cons_succ])
      go_simp
      exact hK (.pointer (some ⟨g, 0, none⟩)) _ rfl (Below.refl _ _)
    · refine fun w8 hc v1 h1 K hK => ?_
      obtain rfl : v1 = .pointer (some ⟨g, 0, none⟩) := h1
      (try simp only [Act.put, List.setIfInBounds_toArray, List.set_cons_zero, List.set_cons_succ])
      have c0 : w8.cell? ⟨g, 0, none⟩ = some (.int .i64 a) := own.cell_of hc.2.2.2.1 (by omega)
      go_simp
      exact hK (.int .i64 a) _ rfl (Below.refl _ _)
    · refine fun w8 hc  K hK => ?_
      (try simp only [Act.put, List.setIfInBounds_toArray, List.set_cons_zero, List.set_cons_succ])
      go_simp
      exact hK (.slice (some ⟨g, 0, none⟩) 6 c2) _ rfl (Below.refl _ _)
    · refine fun w8 hc v3 h3 K hK => ?_
      obtain rfl : v3 = .slice (some ⟨g, 0, none⟩) 6 c2 := h3
      (try simp only [Act.put, List.setIfInBounds_toArray, List.set_cons_zero, List.set_cons_succ])
      go_simp
      exact hK (.pointer (some ⟨g, 1, none⟩)) _ rfl (Below.refl _ _)
    · refine fun w8 hc v4 h4 K hK => ?_
      obtain rfl : v4 = .pointer (some ⟨g, 1, none⟩) := h4
      (try simp only [Act.put, List.setIfInBounds_toArray, List.set_cons_zero, List.set_cons_succ])
      have c0 : w8.cell? ⟨g, 1, none⟩ = some (.int .i64 b) := own.cell_of hc.2.2.2.1 (by omega)
      go_simp
      exact hK (.int .i64 b) _ rfl (Below.refl _ _)
    · refine fun w8 hc  K hK => ?_
      (try simp only [Act.put, List.setIfInBounds_toArray, List.set_cons_zero, List.set_cons_succ])
      go_simp
      exact hK (.slice (some ⟨g, 0, none⟩) 6 c2) _ rfl (Below.refl _ _)
    · refine fun w8 hc v6 h6 K hK => ?_
      obtain rfl : v6 = .slice (some ⟨g, 0, none⟩) 6 c2 := h6
      (try simp only [Act.put, List.setIfInBounds_toArray, List.set_cons_zero, List.set_cons_succ])
      go_simp
      exact hK (.pointer (some ⟨g, 2, none⟩)) _ rfl (Below.refl _ _)
    · refine fun w8 hc v7 h7 K hK => ?_
      obtain rfl : v7 = .pointer (some ⟨g, 2, none⟩) := h7
      (try simp only [Act.put, List.setIfInBounds_toArray, List.set_cons_zero, List.set_cons_succ])
      have c0 : w8.cell? ⟨g, 2, none⟩ = some (.int .i64 c) := own.cell_of hc.2.2.2.1 (by omega)
      go_simp
      exact hK (.int .i64 c) _ rfl (Below.refl _ _)
    · refine fun w8 hc  K hK => ?_
      (try simp only [Act.put, List.setIfInBounds_toArray, List.set_cons_zero, List.set_cons_succ])
      go_simp
      exact hK (.slice (some ⟨g, 0, none⟩) 6 c2) _ rfl (Below.refl _ _)
    · refine fun w8 hc v9 h9 K hK => ?_
      obtain rfl : v9 = .slice (some ⟨g, 0, none⟩) 6 c2 := h9
      (try simp only [Act.put, List.setIfInBounds_toArray, List.set_cons_zero, List.set_cons_succ])
      go_simp
      exact hK (.pointer (some ⟨g, 3, none⟩)) _ rfl (Below.refl _ _)
    · refine fun w8 hc v10 h10 K hK => ?_
      obtain rfl : v10 = .pointer (some ⟨g, 3, none⟩) := h10
      (try simp only [Act.put, List.setIfInBounds_toArray, List.set_cons_zero, List.set_cons_succ])
      have c0 : w8.cell? ⟨g, 3, none⟩ = some (.int .i64 d) := own.cell_of hc.2.2.2.1 (by omega)
      go_simp
      exact hK (.int .i64 d) _ rfl (Below.refl _ _)
    · refine fun w8 hc  K hK => ?_
      (try simp only [Act.put, List.setIfInBounds_toArray, List.set_cons_zero, List.set_cons_succ])
      go_simp
      exact hK (.slice (some ⟨g, 0, none⟩) 6 c2) _ rfl (Below.refl _ _)
    · refine fun w8 hc v12 h12 K hK => ?_
      obtain rfl : v12 = .slice (some ⟨g, 0, none⟩) 6 c2 := h12
      (try simp only [Act.put, List.setIfInBounds_toArray, List.set_cons_zero, List.set_cons_succ])
      go_simp
      exact hK (.pointer (some ⟨g, 4, none⟩)) _ rfl (Below.refl _ _)
    · refine fun w8 hc v13 h13 K hK => ?_
      obtain rfl : v13 = .pointer (some ⟨g, 4, none⟩) := h13
      (try simp only [Act.put, List.setIfInBounds_toArray, List.set_cons_zero, List.set_cons_succ])
      have c0 : w8.cell? ⟨g, 4, none⟩ = some (.int .i64 e) := own.cell_of hc.2.2.2.1 (by omega)
      go_simp
      exact hK (.int .i64 e) _ rfl (Below.refl _ _)
    · refine fun w8 hc v14 h14 K hK => ?_
      obtain rfl : v14 = .int .i64 e := h14
      (try simp only [Act.put, List.setIfInBounds_toArray, List.set_cons_zero, List.set_cons_succ])
      go_simp
      exact hK (.bool x) _ rfl (Below.refl _ _)
    · refine fun w8 hc  K hK => ?_
      (try simp only [Act.put, List.setIfInBounds_toArray, List.set_cons_zero, List.set_cons_succ])
      go_simp
      exact hK (.slice (some ⟨g, 0, none⟩) 6 c2) _ rfl (Below.refl _ _)
    · refine fun w8 hc v16 h16 K hK => ?_
      obtain rfl : v16 = .slice (some ⟨g, 0, none⟩) 6 c2 := h16
      (try simp only [Act.put, List.setIfInBounds_toArray, List.set_cons_zero, List.set_cons_succ])
      go_simp
      exact hK (.pointer (some ⟨g, 5, none⟩)) _ rfl (Below.refl _ _)
    · refine fun w8 hc v17 h17 K hK => ?_
      obtain rfl : v17 = .pointer (some ⟨g, 5, none⟩) := h17
      (try simp only [Act.put, List.setIfInBounds_toArray, List.set_cons_zero, List.set_cons_succ])
      have c0 : w8.cell? ⟨g, 5, none⟩ = some (.int .i64 m) := own.cell_of hc.2.2.2.1 (by omega)
      go_simp
      exact hK (.int .i64 m) _ rfl (Below.refl _ _)
    · refine fun w8 hc v2 h2 v5 h5 v8 h8 v11 h11 v15 h15 v18 h18 K hK => ?_
      obtain rfl : v2 = .int .i64 a := h2
      obtain rfl : v5 = .int .i64 b := h5
      obtain rfl : v8 = .int .i64 c := h8
      obtain rfl : v11 = .int .i64 d := h11
      obtain rfl : v15 = .bool x := h15
      obtain rfl : v18 = .int .i64 m := h18
      (try simp only [Act.put, List.setIfInBounds_toArray, List.set_cons_zero, List.set_cons_succ])
      go_simp
      exact hK (.agg #[.int .i64 a, .int .i64 b, .int .i64 c, .int .i64 d, .bool x, .int .i64 m]) _ rfl (Below.refl _ _)
    · refine fun w8 hc  K hK => ?_
      (try simp only [Act.put, List.setIfInBounds_toArray, List.set_cons_zero, List.set_cons_succ])
      rw [if_pos (by rfl)]
      have hlt := hc.2.1.lt
      go_simp
      exact hK (.pointer (some ⟨w8.heap.size, 0, none⟩)) _ ⟨w8.heap.size, rfl, hlt, Bx.made _ _ _⟩ (below_box _ _)
    refine fun wg2 hc v0 h0 v1 h1 v2 h2 v3 h3 v4 h4 v5 h5 v6 h6 v7 h7 v8 h8 v9 h9 v10 h10 v11 h11 v12 h12 v13 h13 v14 h14 v15 h15 v16 h16 v17 h17 v18 h18 v19 h19 v20 h20 => ?_
    obtain rfl : v0 = .slice (some ⟨g, 0, none⟩) 6 c2 := h0
    obtain rfl : v1 = .pointer (some ⟨g, 0, none⟩) := h1
    obtain rfl : v2 = .int .i64 a := h2
    obtain rfl : v3 = .slice (some ⟨g, 0, none⟩) 6 c2 := h3
    obtain rfl : v4 = .pointer (some ⟨g, 1, none⟩) := h4
    obtain rfl : v5 = .int .i64 b := h5
    obtain rfl : v6 = .slice (some ⟨g, 0, none⟩) 6 c2 := h6
    obtain rfl : v7 = .pointer (some ⟨g, 2, none⟩) := h7
    obtain rfl : v8 = .int .i64 c := h8
    obtain rfl : v9 = .slice (some ⟨g, 0, none⟩) 6 c2 := h9
    obtain rfl : v10 = .pointer (some ⟨g, 3, none⟩) := h10
    obtain rfl : v11 = .int .i64 d := h11
    obtain rfl : v12 = .slice (some ⟨g, 0, none⟩) 6 c2 := h12
    obtain rfl : v13 = .pointer (some ⟨g, 4, none⟩) := h13
    obtain rfl : v14 = .int .i64 e := h14
    obtain rfl : v15 = .bool x := h15
    obtain rfl : v16 = .slice (some ⟨g, 0, none⟩) 6 c2 := h16
    obtain rfl : v17 = .pointer (some ⟨g, 5, none⟩) := h17
    obtain rfl : v18 = .int .i64 m := h18
    obtain rfl : v19 = .agg #[.int .i64 a, .int .i64 b, .int .i64 c, .int .i64 d, .bool x, .int .i64 m] := h19
    obtain ⟨qV, rfl, hq, hP⟩ : ∃ q, v20 = .pointer (some ⟨q, 0, none⟩) ∧ w.heap.size < q ∧ Bx 25 wg2 q #[.int .i64 0, .int .i64 0, .int .i64 0, .int .i64 0, .bool false, .int .i64 0] := h20
    (try simp only [reg.Obs])
    (try simp only [Act.put, List.setIfInBounds_toArray, List.set_cons_zero, List.set_cons_succ])
    simp only [List.drop_succ_cons, List.drop_zero]
    have B2 := Lib.hid hc.1
    have Z2 := Lib.hid hc.2.1
    have R2 := Lib.hid hc.2.2.1
    have N2 := Lib.hid hc.2.2.2.1
    clear hc B1 Z1 R1 N1
    have LV := Lib.hid hq
    have V2 := Lib.hid hP
    clear hq hP
    clear N2
    refine stw.list_store rfl 25 _ _ rfl (qV) #[.int .i64 a, .int .i64 b, .int .i64 c, .int .i64 d, .bool x, .int .i64 m] rfl rfl 25 _ V2.out rfl szB (oneB _ _ _ _ _ _) ?_
    intro wz3 hz
    (try simp only [Act.put])
    have B3 := Lib.hid (hz.on B2.out (by have hlV := LV.out; have hs0 := LTZ.out; have hs1 := LHI.out; have hs2 := SS1.out; first | omega | (simp <;> omega)))
    have Z3 := Lib.hid (hz.keep Z2.out (by have hlV := LV.out; have hs0 := LTZ.out; have hs1 := LHI.out; have hs2 := SS1.out; first | omega | (simp <;> omega)))
    have V3 := Lib.hid (hz.box)
    have R3 := Lib.hid (R2.out.same hz.below.size fun b h1 h2 => hz.other b (by have hlV := LV.out; have hs0 := LTZ.out; have hs1 := LHI.out; have hs2 := SS1.out; first | omega | (simp <;> omega)))
    clear hz B2 Z2 V2 R2
    clear hx
    obtain ⟨el, hel⟩ : ∃ r, eb ⟨a, b, c, d, x, m⟩ = r := ⟨_, rfl⟩
    have HEL := Lib.hid hel
    have HLE := Lib.hid (show el.length ≤ 36 by rw [← hel]; exact eb_len _)
    clear hel
    go_wp2_with (refine stw.list_load rfl 25 _ rfl (qV) rfl 25 _ V3.out Try.underlying25 rfl szB ?_)
    (with_reducible refine (implEb a b c d x m _).mono ?_)
    rw [HEL.out]
    rintro en w4 ⟨A3, n3, c3, rfl, ho, hb⟩
    have SS4 := Lib.hid hb.size
    have B4 := Lib.hid (B3.out.trans (hb.mono B3.out.size))
    have Z4 := Lib.hid (Z3.out.below hb)
    have V4 := Lib.hid (V3.out.below hb)
    have R4 := Lib.hid (R3.out.below hb)
    clear hb B3 Z3 V3 R3
    have E4 := Lib.hid ho
    clear ho
    go_wp2_with fail
    obtain ⟨q, hq⟩ : ∃ q, decide (el = zs) = q := ⟨_, rfl⟩
    have HQ := Lib.hid hq
    clear hq
    (with_reducible refine (eqs.implEqB el zs _ _ _ _ A3 A n3 c3 n cap _ E4.out.rd R4.out).mono ?_)
    rintro e w5 hp
    obtain ⟨rfl, hb⟩ := eqs.EqPost_parts HQ.out hp
    clear hp
    have SS5 := Lib.hid hb.size
    have B5 := Lib.hid (B4.out.trans (hb.mono B4.out.size))
    have Z5 := Lib.hid (Z4.out.below hb)
    have V5 := Lib.hid (V4.out.below hb)
    have R5 := Lib.hid (R4.out.below hb)
    have E5 := Lib.hid (E4.out.below hb)
    clear hb  B4 Z4 V4 R4 E4
    clear E5
    cases q with
    | true =>
      have HD := Lib.hid (show db zs = (⟨a, b, c, d, x, m⟩, true) by
      have h1 := (same_ask HBZ.out HDV.out).1 (by rw [HOF.out, HEL.out]; exact of_decide_eq_true HQ.out)
      have h2 := db_yes HDV.out h1.1 h1.2.1 h1.2.2
      rwa [HOF.out] at h2)
      go_wp2_with (first | (refine stw.list_load rfl 25 _ rfl (qV) rfl 25 _ V5.out Try.underlying25 rfl szB ?_) | (refine stw.list_store rfl 25 _ _ rfl (w.heap.size) #[.int .i64 a, .int .i64 b, .int .i64 c, .int .i64 d, .bool x, .int .i64 m] rfl rfl 25 _ Z5.out rfl szB (oneB _ _ _ _ _ _) ?_; intro wz6 hz))
      have B6 := Lib.hid (hz.on B5.out (by have hlV := LV.out; have hs0 := LTZ.out; have hs1 := LHI.out; have hs2 := SS1.out; have hs3 := SS4.out; have hs4 := SS5.out; first | omega | (simp <;> omega)))
      have Z6 := Lib.hid (hz.box)
      have V6 := Lib.hid (hz.keep V5.out (by have hlV := LV.out; have hs0 := LTZ.out; have hs1 := LHI.out; have hs2 := SS1.out; have hs3 := SS4.out; have hs4 := SS5.out; first | omega | (simp <;> omega)))
      have R6 := Lib.hid (R5.out.same hz.below.size fun b h1 h2 => hz.other b (by have hlV := LV.out; have hs0 := LTZ.out; have hs1 := LHI.out; have hs2 := SS1.out; have hs3 := SS4.out; have hs4 := SS5.out; first | omega | (simp <;> omega)))
      clear hz B5 Z5 V5 R5
      (try simp only [Exit.inBlock, Exit.then])
      refine bodyPost_ret (v := .tuple #[.agg #[.int .i64 a, .int .i64 b, .int .i64 c, .int .i64 d, .bool x, .int .i64 m], .bool true]) ?_ rfl ?_
      · rw [results_cell_tmp1 rfl]
        exact stw.back2 Z6.out Try.underlying25 rfl szB _
      · exact ⟨by rw [HD.out], B6.out⟩
    | false =>
      have HD := Lib.hid (show db zs = (⟨0, 0, 0, 0, false, 0⟩, false) from db_no_ HDV.out fun h => of_decide_eq_false HQ.out (by have h1 := (same_ask HBZ.out HDV.out).2 h; rw [HOF.out, HEL.out] at h1; exact h1))
      go_wp2_with (first | (refine stw.list_store rfl 25 _ _ rfl (w.heap.size) #[.int .i64 0, .int .i64 0, .int .i64 0, .int .i64 0, .bool false, .int .i64 0] rfl rfl 25 _ Z5.out rfl szB (oneB _ _ _ _ _ _) ?_; intro wz6 hz))
      have B6 := Lib.hid (hz.on B5.out (by have hlV := LV.out; have hs0 := LTZ.out; have hs1 := LHI.out; have hs2 := SS1.out; have hs3 := SS4.out; have hs4 := SS5.out; first | omega | (simp <;> omega)))
      have Z6 := Lib.hid (hz.box)
      have V6 := Lib.hid (hz.keep V5.out (by have hlV := LV.out; have hs0 := LTZ.out; have hs1 := LHI.out; have hs2 := SS1.out; have hs3 := SS4.out; have hs4 := SS5.out; first | omega | (simp <;> omega)))
      have R6 := Lib.hid (R5.out.same hz.below.size fun b h1 h2 => hz.other b (by have hlV := LV.out; have hs0 := LTZ.out; have hs1 := LHI.out; have hs2 := SS1.out; have hs3 := SS4.out; have hs4 := SS5.out; first | omega | (simp <;> omega)))
      clear hz B5 Z5 V5 R5
      (try simp only [Exit.inBlock, Exit.then])
      refine bodyPost_ret (v := .tuple #[.agg #[.int .i64 0, .int .i64 0, .int .i64 0, .int .i64 0, .bool false, .int .i64 0], .bool false]) ?_ rfl ?_
      · rw [results_cell_tmp1 rfl]
        exact stw.back2 Z6.out Try.underlying25 rfl szB _
      · exact ⟨by rw [HD.out], B6.out⟩
  | false =>
    have HD := Lib.hid (show db zs = (⟨0, 0, 0, 0, false, 0⟩, false) from db_dv HDV.out)
    go_wp2_with (first | (refine stw.list_store rfl 25 _ _ rfl (w.heap.size) #[.int .i64 0, .int .i64 0, .int .i64 0, .int .i64 0, .bool false, .int .i64 0] rfl rfl 25 _ Z1.out rfl szB (oneB _ _ _ _ _ _) ?_; intro wz2 hz))
    have B2 := Lib.hid (hz.on B1.out (by have hs0 := LTZ.out; have hs1 := LHI.out; have hs2 := SS1.out; first | omega | (simp <;> omega)))
    have Z2 := Lib.hid (hz.box)
    have R2 := Lib.hid (R1.out.same hz.below.size fun b h1 h2 => hz.other b (by have hs0 := LTZ.out; have hs1 := LHI.out; have hs2 := SS1.out; first | omega | (simp <;> omega)))
    have N2 := Lib.hid (N1.out.same hz.below.size fun b h1 h2 => hz.other b (by have hs0 := LTZ.out; have hs1 := LHI.out; have hs2 := SS1.out; first | omega | (simp <;> omega)))
    clear hz B1 Z1 R1 N1
    (try simp only [Exit.inBlock, Exit.then])
    refine bodyPost_ret (v := .tuple #[.agg #[.int .i64 0, .int .i64 0, .int .i64 0, .int .i64 0, .bool false, .int .i64 0], .bool false]) ?_ rfl ?_
    · rw [results_cell_tmp1 rfl]
      exact stw.back2 Z2.out Try.underlying25 rfl szB _
    · exact ⟨by rw [HD.out], B2.out⟩
set_option maxRecDepth 100000 in
set_option maxHeartbeats 4000000 in
theorem specDb (zs : List Int) (lo hi : Nat) (A : Option Addr) (n cap : Nat) (w : World) (h : Rd .u8 w lo hi A n cap zs) (hn : n ≤ 67108864) :
    Calls Try.prog 17 #[.slice A n cap] w (DPost (db zs) w) := by
  have RW := Lib.hid h
  have HBZ := Lib.hid (show Byt zs from h.wf.u8)
  have HLN := Lib.hid h.len
  have LHI := Lib.hid (show hi ≤ w.heap.size from h.hi_)
  obtain ⟨l, i, ok, hdv⟩ : ∃ l i ok, dv zs 0 6 = (l, i, ok) := ⟨_, _, _, rfl⟩
  have HDV := Lib.hid hdv
  clear h hdv
  go_enter Try.func17, Try.ntmps17
  go_upto_region 1 with fail
  obtain ⟨w0, hW⟩ : ∃ w0, w.alloc (.cells #[.int .i64 0, .int .i64 0, .int .i64 0, .int .i64 0, .bool false, .int .i64 0] 25) = w0 := ⟨_, rfl⟩
  rw [hW]
  have B0 := Lib.hid (show Below w.heap.size w w0 by rw [← hW]; exact (Below.refl _ _).alloc (by simp <;> omega) _)
  have Z0 := Lib.hid (show Bx 25 w0 (w.heap.size) #[.int .i64 0, .int .i64 0, .int .i64 0, .int .i64 0, .bool false, .int .i64 0] by
      rw [← hW]
      have hh := Bx.made 25 w #[.int .i64 0, .int .i64 0, .int .i64 0, .int .i64 0, .bool false, .int .i64 0]
      exact hh)
  have R0 := Lib.hid (show Rd .u8 w0 (lo) (hi) A n cap zs by rw [← hW]; exact (RW.out.below (below_box _ _)))
  clear hW
  have LTZ := Lib.hid Z0.out.lt
  go_wp2_with fail
  (with_reducible refine (specDv _ _ A n cap zs 0 6 _ R0.out (by omega)).mono ?_)
  rintro en w1 hp
  obtain ⟨A2, n2, c2, rfl, ho, hb⟩ := hp.parts HDV.out
  clear hp
  have SS1 := Lib.hid hb.size
  have B1 := Lib.hid (B0.out.trans (hb.mono B0.out.size))
  have Z1 := Lib.hid (Z0.out.below hb)
  have R1 := Lib.hid (R0.out.below hb)
  clear hb B0 Z0 R0
  have N1 := Lib.hid ho
  clear ho
  cases ok with
  | true =>
    obtain ⟨g1, g2, g3, g4, g5⟩ := dv_ok HBZ.out HDV.out
    obtain ⟨a, b, c, d, e, m, rfl⟩ := six g1
    obtain rfl : n2 = 6 := by have h1 := N1.out.len; simpa using h1.symm
    obtain ⟨g, rfl, _⟩ := own.own_some N1.out (by omega)
    have he0 : 0 ≤ e := (g2 e (by simp)).1
    obtain ⟨x, hx⟩ : ∃ x, (e == 1) = x := ⟨_, rfl⟩
    have HOF := Lib.hid (show bcOf [a, b, c, d, e, m] = ⟨a, b, c, d, x, m⟩ by rw [← hx]; show (⟨a, b, c, d, decide (e = 1), m⟩ : Bc) = _; congr 1)
    clear g1 g2 g5
    have HE0 := Lib.hid he0
    clear he0
    have HLZ := Lib.hid (show (n : Int) = (zs.length : Int) by have h1 := HLN.out; omega)
    clear g3 g4
    by_cases hi : i = (n : Int)
    · have HI := Lib.hid (show i = (zs.length : Int) by rw [← HLZ.out]; exact hi)
      have hi1 : (i != (n : Int)) = false := by simpa using hi
      have hi2 : (i == (n : Int)) = true := by simpa using hi
      clear hi
      have cN : w1.cell? ⟨g, 4, none⟩ = some (.int .i64 e) := own.cell_of N1.out (by omega)
      by_cases he : e ≤ 1
      · have HLE := Lib.hid (show ([a, b, c, d, e, m] : List Int).getD 4 0 ≤ 1 from he)
        have he1 : decide (e > 1) = false := decide_eq_false (by omega)
        clear he
        go_upto_region 4 with fail
        clear cN hi1 hi2 he1
        refine reg.region_tail reg.Bel 21 54 [some [], some [(0, 29)], some [(1, 30)], some [], some [(3, 32)], some [(4, 33)], some [], some [(6, 35)], some [(7, 36)], some [], some [(9, 38)], some [(10, 39)], some [], some [(12, 41)], some [(13, 42)], some [(14, 43)], some [], some [(16, 45)], some [(17, 46)], some [(2, 31), (5, 34), (8, 37), (11, 40), (15, 44), (18, 47)], some [], none] [(0, 29), (1, 30), (2, 31), (3, 32), (4, 33), (5, 34), (6, 35), (7, 36), (8, 37), (9, 38), (10, 39), (11, 40), (12, 41), (13, 42), (14, 43), (15, 44), (16, 45), (17, 46), (18, 47), (19, 48), (20, 7)]
          (fun w' => Below w.heap.size w w' ∧ Bx 25 w' (w.heap.size) #[.int .i64 0, .int .i64 0, .int .i64 0, .int .i64 0, .bool false, .int .i64 0] ∧ Rd .u8 w' (lo) (hi) A n cap zs ∧ Ow 3 .i64 w' (w0.heap.size) (w1.heap.size) (some ⟨g, 0, none⟩) 6 c2 [a, b, c, d, e, m] ∧ True)
          (reg.rl [reg.is (.slice (some ⟨g, 0, none⟩) 6 c2), reg.is (.pointer (some ⟨g, 0, none⟩)), reg.is (.int .i64 a), reg.is (.slice (some ⟨g, 0, none⟩) 6 c2), reg.is (.pointer (some ⟨g, 1, none⟩)), reg.is (.int .i64 b), reg.is (.slice (some ⟨g, 0, none⟩) 6 c2), reg.is (.pointer (some ⟨g, 2, none⟩)), reg.is (.int .i64 c), reg.is (.slice (some ⟨g, 0, none⟩) 6 c2), reg.is (.pointer (some ⟨g, 3, none⟩)), reg.is (.int .i64 d), reg.is (.slice (some ⟨g, 0, none⟩) 6 c2), reg.is (.pointer (some ⟨g, 4, none⟩)), reg.is (.int .i64 e), reg.is (.bool x), reg.is (.slice (some ⟨g, 0, none⟩) 6 c2), reg.is (.pointer (some ⟨g, 5, none⟩)), reg.is (.int .i64 m), reg.is (.agg #[.int .i64 a, .int .i64 b, .int .i64 c, .int .i64 d, .bool x, .int .i64 m]), stw.mk 25 (w.heap.size) #[.int .i64 0, .int .i64 0, .int .i64 0, .int .i64 0, .bool false, .int .i64 0], reg.free])
          (by kernel_rfl) rfl (by kernel_rfl) (by kernel_rfl) rfl
          (fun w1 w2 hc hb => ⟨hc.1.trans (hb.mono hc.1.size), hc.2.1.below hb, hc.2.2.1.below hb, hc.2.2.2.1.below hb, trivial⟩) (reg.rl_keep _) (⟨own.below_drew B1.out, Z1.out.same rfl, own.rd_drew R1.out, own.ow_drew N1.out, trivial⟩) (by kernel_rfl) ⟨?_, ?_, ?_, ?_, ?_, ?_, ?_, ?_, ?_, ?_, ?_, ?_, ?_, ?_, ?_, ?_, ?_, ?_, ?_, ?_, ?_, trivial⟩ ?_
        · refine fun w8 hc  K hK => ?_
          (try simp only [Act.put, List.setIfInBounds_toArray, List.set_cons_zero, List.set_cons_succ])
          go_simp
          exact hK (.slice (some ⟨g, 0, none⟩) 6 c2) _ rfl (Below.refl _ _)
        · refine fun w8 hc v0 h0 K hK => ?_
          obtain rfl : v0 = .slice (some ⟨g, 0, none⟩) 6 c2 := h0
          (try simp only [Act.put, List.setIfInBounds_toArray, List.set_cons_zero, List.set_cons_succ])
          go_simp
          exact hK (.pointer (some ⟨g, 0, none⟩)) _ rfl (Below.refl _ _)
        · refine fun w8 hc v1 h1 K hK => ?_
          obtain rfl : v1 = .pointer (some ⟨g, 0, none⟩) := h1
          (try simp only [Act.put, List.setIfInBounds_toArray, List.set_cons_zero, List.set_cons_succ])
          have c0 : w8.cell? ⟨g, 0, none⟩ = some (.int .i64 a) := own.cell_of hc.2.2.2.1 (by omega)
          go_simp
          exact hK (.int .i64 a) _ rfl (Below.refl _ _)
        · refine fun w8 hc  K hK => ?_
          (try simp only [Act.put, List.setIfInBounds_toArray, List.set_cons_zero, List.set_cons_succ])
          go_simp
          exact hK (.slice (some ⟨g, 0, none⟩) 6 c2) _ rfl (Below.refl _ _)
        · refine fun w8 hc v3 h3 K hK => ?_
          obtain rfl : v3 = .slice (some ⟨g, 0, none⟩) 6 c2 := h3
          (try simp only [Act.put, List.setIfInBounds_toArray, List.set_cons_zero, List.set_cons_succ])
          go_simp
          exact hK (.pointer (some ⟨g, 1, none⟩)) _ rfl (Below.refl _ _)
        · refine fun w8 hc v4 h4 K hK => ?_
          obtain rfl : v4 = .pointer (some ⟨g, 1, none⟩) := h4
          (try simp only [Act.put, List.setIfInBounds_toArray, List.set_cons_zero, List.set_cons_succ])
          have c0 : w8.cell? ⟨g, 1, none⟩ = some (.int .i64 b) := own.cell_of hc.2.2.2.1 (by omega)
          go_simp
          exact hK (.int .i64 b) _ rfl (Below.refl _ _)
        · refine fun w8 hc  K hK => ?_
          (try simp only [Act.put, List.setIfInBounds_toArray, List.set_cons_zero, List.set_cons_succ])
          go_simp
          exact hK (.slice (some ⟨g, 0, none⟩) 6 c2) _ rfl (Below.refl _ _)
        · refine fun w8 hc v6 h6 K hK => ?_
          obtain rfl : v6 = .slice (some ⟨g, 0, none⟩) 6 c2 := h6
          (try simp only [Act.put, List.setIfInBounds_toArray, List.set_cons_zero, List.set_cons_succ])
          go_simp
          exact hK (.pointer (some ⟨g, 2, none⟩)) _ rfl (Below.refl _ _)
        · refine fun w8 hc v7 h7 K hK => ?_
          obtain rfl : v7 = .pointer (some ⟨g, 2, none⟩) := h7
          (try simp only [Act.put, List.setIfInBounds_toArray, List.set_cons_zero, List.set_cons_succ])
          have c0 : w8.cell? ⟨g, 2, none⟩ = some (.int .i64 c) := own.cell_of hc.2.2.2.1 (by omega)
          go_simp
          exact hK (.int .i64 c) _ rfl (Below.refl _ _)
        · refine fun w8 hc  K hK => ?_
          (try simp only [Act.put, List.setIfInBounds_toArray, List.set_cons_zero, List.set_cons_succ])
          go_simp
          exact hK (.slice (some ⟨g, 0, none⟩) 6 c2) _ rfl (Below.refl _ _)
        · refine fun w8 hc v9 h9 K hK => ?_
          obtain rfl : v9 = .slice (some ⟨g, 0, none⟩) 6 c2 := h9
          (try simp only [Act.put, List.setIfInBounds_toArray, List.set_cons_zero, List.set_cons_succ])
          go_simp
          exact hK (.pointer (some ⟨g, 3, none⟩)) _ rfl (Below.refl _ _)
        · refine fun w8 hc v10 h10 K hK => ?_
          obtain rfl : v10 = .pointer (some ⟨g, 3, none⟩) := h10
          (try simp only [Act.put, List.setIfInBounds_toArray, List.set_cons_zero, List.set_cons_succ])
          have c0 : w8.cell? ⟨g, 3, none⟩ = some (.int .i64 d) := own.cell_of hc.2.2.2.1 (by omega)
          go_simp
          exact hK (.int .i64 d) _ rfl (Below.refl _ _)
        · refine fun w8 hc  K hK => ?_
          (try simp only [Act.put, List.setIfInBounds_toArray, List.set_cons_zero, List.set_cons_succ])
          go_simp
          exact hK (.slice (some ⟨g, 0, none⟩) 6 c2) _ rfl (Below.refl _ _)
        · refine fun w8 hc v12 h12 K hK => ?_
          obtain rfl : v12 = .slice (some ⟨g, 0, none⟩) 6 c2 := h12
          (try simp only [Act.put, List.setIfInBounds_toArray, List.set_cons_zero, List.set_cons_succ])
          go_simp
          exact hK (.pointer (some ⟨g, 4, none⟩)) _ rfl (Below.refl _ _)
        · refine fun w8 hc v13 h13 K hK => ?_
          obtain rfl : v13 = .pointer (some ⟨g, 4, none⟩) := h13
          (try simp only [Act.put, List.setIfInBounds_toArray, List.set_cons_zero, List.set_cons_succ])
          have c0 : w8.cell? ⟨g, 4, none⟩ = some (.int .i64 e) := own.cell_of hc.2.2.2.1 (by omega)
          go_simp
          exact hK (.int .i64 e) _ rfl (Below.refl _ _)
        · refine fun w8 hc v14 h14 K hK => ?_
          obtain rfl : v14 = .int .i64 e := h14
          (try simp only [Act.put, List.setIfInBounds_toArray, List.set_cons_zero, List.set_cons_succ])
          go_simp
          exact hK (.bool x) _ rfl (Below.refl _ _)
        · refine fun w8 hc  K hK => ?_
          (try simp only [Act.put, List.setIfInBounds_toArray, List.set_cons_zero, List.set_cons_succ])
          go_simp
          exact hK (.slice (some ⟨g, 0, none⟩) 6 c2) _ rfl (Below.refl _ _)
        · refine fun w8 hc v16 h16 K hK => ?_
          obtain rfl : v16 = .slice (some ⟨g, 0, none⟩) 6 c2 := h16
          (try simp only [Act.put, List.setIfInBounds_toArray, List.set_cons_zero, List.set_cons_succ])
          go_simp
          exact hK (.pointer (some ⟨g, 5, none⟩)) _ rfl (Below.refl _ _)
        · refine fun w8 hc v17 h17 K hK => ?_
          obtain rfl : v17 = .pointer (some ⟨g, 5, none⟩) := h17
          (try simp only [Act.put, List.setIfInBounds_toArray, List.set_cons_zero, List.set_cons_succ])
          have c0 : w8.cell? ⟨g, 5, none⟩ = some (.int .i64 m) := own.cell_of hc.2.2.2.1 (by omega)
          go_simp
          exact hK (.int .i64 m) _ rfl (Below.refl _ _)
        · refine fun w8 hc v2 h2 v5 h5 v8 h8 v11 h11 v15 h15 v18 h18 K hK => ?_
          obtain rfl : v2 = .int .i64 a := h2
          obtain rfl : v5 = .int .i64 b := h5
          obtain rfl : v8 = .int .i64 c := h8
          obtain rfl : v11 = .int .i64 d := h11
          obtain rfl : v15 = .bool x := h15
          obtain rfl : v18 = .int .i64 m := h18
          (try simp only [Act.put, List.setIfInBounds_toArray, List.set_cons_zero, List.set_cons_succ])
          go_simp
          exact hK (.agg #[.int .i64 a, .int .i64 b, .int .i64 c, .int .i64 d, .bool x, .int .i64 m]) _ rfl (Below.refl _ _)
        · refine fun w8 hc  K hK => ?_
          (try simp only [Act.put, List.setIfInBounds_toArray, List.set_cons_zero, List.set_cons_succ])
          rw [if_pos (by rfl)]
          have hlt := hc.2.1.lt
          go_simp
          exact hK (.pointer (some ⟨w8.heap.size, 0, none⟩)) _ ⟨w8.heap.size, rfl, hlt, Bx.made _ _ _⟩ (below_box _ _)
        refine fun wg2 hc v0 h0 v1 h1 v2 h2 v3 h3 v4 h4 v5 h5 v6 h6 v7 h7 v8 h8 v9 h9 v10 h10 v11 h11 v12 h12 v13 h13 v14 h14 v15 h15 v16 h16 v17 h17 v18 h18 v19 h19 v20 h20 => ?_
        obtain rfl : v0 = .slice (some ⟨g, 0, none⟩) 6 c2 := h0
        obtain rfl : v1 = .pointer (some ⟨g, 0, none⟩) := h1
        obtain rfl : v2 = .int .i64 a := h2
        obtain rfl : v3 = .slice (some ⟨g, 0, none⟩) 6 c2 := h3
        obtain rfl : v4 = .pointer (some ⟨g, 1, none⟩) := h4
        obtain rfl : v5 = .int .i64 b := h5
        obtain rfl : v6 = .slice (some ⟨g, 0, none⟩) 6 c2 := h6
        obtain rfl : v7 = .pointer (some ⟨g, 2, none⟩) := h7
        obtain rfl : v8 = .int .i64 c := h8
        obtain rfl : v9 = .slice (some ⟨g, 0, none⟩) 6 c2 := h9
        obtain rfl : v10 = .pointer (some ⟨g, 3, none⟩) := h10
        obtain rfl : v11 = .int .i64 d := h11
        obtain rfl : v12 = .slice (some ⟨g, 0, none⟩) 6 c2 := h12
        obtain rfl : v13 = .pointer (some ⟨g, 4, none⟩) := h13
        obtain rfl : v14 = .int .i64 e := h14
        obtain rfl : v15 = .bool x := h15
        obtain rfl : v16 = .slice (some ⟨g, 0, none⟩) 6 c2 := h16
        obtain rfl : v17 = .pointer (some ⟨g, 5, none⟩) := h17
        obtain rfl : v18 = .int .i64 m := h18
        obtain rfl : v19 = .agg #[.int .i64 a, .int .i64 b, .int .i64 c, .int .i64 d, .bool x, .int .i64 m] := h19
        obtain ⟨qV, rfl, hq, hP⟩ : ∃ q, v20 = .pointer (some ⟨q, 0, none⟩) ∧ w.heap.size < q ∧ Bx 25 wg2 q #[.int .i64 0, .int .i64 0, .int .i64 0, .int .i64 0, .bool false, .int .i64 0] := h20
        (try simp only [reg.Obs])
        (try simp only [Act.put, List.setIfInBounds_toArray, List.set_cons_zero, List.set_cons_succ])
        simp only [List.drop_succ_cons, List.drop_zero]
        have B2 := Lib.hid hc.1
        have Z2 := Lib.hid hc.2.1
        have R2 := Lib.hid hc.2.2.1
        have N2 := Lib.hid hc.2.2.2.1
        clear hc B1 Z1 R1 N1
        have LV := Lib.hid hq
        have V2 := Lib.hid hP
        clear hq hP
        clear N2
        refine stw.list_store rfl 25 _ _ rfl (qV) #[.int .i64 a, .int .i64 b, .int .i64 c, .int .i64 d, .bool x, .int .i64 m] rfl rfl 25 _ V2.out rfl szB (oneB _ _ _ _ _ _) ?_
        intro wz3 hz
        (try simp only [Act.put])
        have B3 := Lib.hid (hz.on B2.out (by have hlV := LV.out; have hs0 := LTZ.out; have hs1 := LHI.out; have hs2 := SS1.out; first | omega | (simp <;> omega)))
        have Z3 := Lib.hid (hz.keep Z2.out (by have hlV := LV.out; have hs0 := LTZ.out; have hs1 := LHI.out; have hs2 := SS1.out; first | omega | (simp <;> omega)))
        have V3 := Lib.hid (hz.box)
        have R3 := Lib.hid (R2.out.same hz.below.size fun b h1 h2 => hz.other b (by have hlV := LV.out; have hs0 := LTZ.out; have hs1 := LHI.out; have hs2 := SS1.out; first | omega | (simp <;> omega)))
        clear hz B2 Z2 V2 R2
        clear hx
        obtain ⟨v, hv⟩ : ∃ r, vb ⟨a, b, c, d, x, m⟩ = r := ⟨_, rfl⟩
        have HV := Lib.hid hv
        clear hv
        go_wp2_with (refine stw.list_load rfl 25 _ rfl (qV) rfl 25 _ V3.out Try.underlying25 rfl szB ?_)
        (with_reducible refine (specVb a b c d x m _).mono ?_)
        rintro e w4 hp
        obtain ⟨rfl, hb⟩ := b_parts HV.out hp
        clear hp
        have SS4 := Lib.hid hb.size
        have B4 := Lib.hid (B3.out.trans (hb.mono B3.out.size))
        have Z4 := Lib.hid (Z3.out.below hb)
        have V4 := Lib.hid (V3.out.below hb)
        have R4 := Lib.hid (R3.out.below hb)
        clear hb  B3 Z3 V3 R3
        cases v with
        | true =>
          have HD := Lib.hid (show db zs = (⟨a, b, c, d, x, m⟩, true) by
      have h2 := db_yes HDV.out HI.out HLE.out (by rw [HOF.out]; exact of_decide_eq_true HV.out)
      rwa [HOF.out] at h2)
          go_wp2_with (first | (refine stw.list_load rfl 25 _ rfl (qV) rfl 25 _ V4.out Try.underlying25 rfl szB ?_) | (refine stw.list_store rfl 25 _ _ rfl (w.heap.size) #[.int .i64 a, .int .i64 b, .int .i64 c, .int .i64 d, .bool x, .int .i64 m] rfl rfl 25 _ Z4.out rfl szB (oneB _ _ _ _ _ _) ?_; intro wz5 hz))
          have B5 := Lib.hid (hz.on B4.out (by have hlV := LV.out; have hs0 := LTZ.out; have hs1 := LHI.out; have hs2 := SS1.out; have hs3 := SS4.out; first | omega | (simp <;> omega)))
          have Z5 := Lib.hid (hz.box)
          have V5 := Lib.hid (hz.keep V4.out (by have hlV := LV.out; have hs0 := LTZ.out; have hs1 := LHI.out; have hs2 := SS1.out; have hs3 := SS4.out; first | omega | (simp <;> omega)))
          have R5 := Lib.hid (R4.out.same hz.below.size fun b h1 h2 => hz.other b (by have hlV := LV.out; have hs0 := LTZ.out; have hs1 := LHI.out; have hs2 := SS1.out; have hs3 := SS4.out; first | omega | (simp <;> omega)))
          clear hz B4 Z4 V4 R4
          (try simp only [Exit.inBlock, Exit.then])
          refine bodyPost_ret (v := .tuple #[.agg #[.int .i64 a, .int .i64 b, .int .i64 c, .int .i64 d, .bool x, .int .i64 m], .bool true]) ?_ rfl ?_
          · rw [results_cell_tmp1 rfl]
            exact stw.back2 Z5.out Try.underlying25 rfl szB _
          · exact ⟨by rw [HD.out], B5.out⟩
        | false =>
          have HD := Lib.hid (show db zs = (⟨0, 0, 0, 0, false, 0⟩, false) from db_no_ HDV.out fun h => of_decide_eq_false HV.out (by have h1 := h.2.2; rw [HOF.out] at h1; exact h1))
          go_wp2_with (first | (refine stw.list_store rfl 25 _ _ rfl (w.heap.size) #[.int .i64 0, .int .i64 0, .int .i64 0, .int .i64 0, .bool false, .int .i64 0] rfl rfl 25 _ Z4.out rfl szB (oneB _ _ _ _ _ _) ?_; intro wz5 hz))
          have B5 := Lib.hid (hz.on B4.out (by have hlV := LV.out; have hs0 := LTZ.out; have hs1 := LHI.out; have hs2 := SS1.out; have hs3 := SS4.out; first | omega | (simp <;> omega)))
          have Z5 := Lib.hid (hz.box)
          have V5 := Lib.hid (hz.keep V4.out (by have hlV := LV.out; have hs0 := LTZ.out; have hs1 := LHI.out; have hs2 := SS1.out; have hs3 := SS4.out; first | omega | (simp <;> omega)))
          have R5 := Lib.hid (R4.out.same hz.below.size fun b h1 h2 => hz.other b (by have hlV := LV.out; have hs0 := LTZ.out; have hs1 := LHI.out; have hs2 := SS1.out; have hs3 := SS4.out; first | omega | (simp <;> omega)))
          clear hz B4 Z4 V4 R4
          (try simp only [Exit.inBlock, Exit.then])
          refine bodyPost_ret (v := .tuple #[.agg #[.int .i64 0, .int .i64 0, .int .i64 0, .int .i64 0, .bool false, .int .i64 0], .bool false]) ?_ rfl ?_
          · rw [results_cell_tmp1 rfl]
            exact stw.back2 Z5.out Try.underlying25 rfl szB _
          · exact ⟨by rw [HD.out], B5.out⟩
      · have HD := Lib.hid (show db zs = (⟨0, 0, 0, 0, false, 0⟩, false) from db_no_ HDV.out fun h => he h.2.1)
        have he1 : decide (e > 1) = true := decide_eq_true (by omega)
        clear he hx
        go_wp2_with (first | (refine stw.list_store rfl 25 _ _ rfl (w.heap.size) #[.int .i64 0, .int .i64 0, .int .i64 0, .int .i64 0, .bool false, .int .i64 0] rfl rfl 25 _ Z1.out rfl szB (oneB _ _ _ _ _ _) ?_; intro wz2 hz))
        have B2 := Lib.hid (hz.on B1.out (by have hs0 := LTZ.out; have hs1 := LHI.out; have hs2 := SS1.out; first | omega | (simp <;> omega)))
        have Z2 := Lib.hid (hz.box)
        have R2 := Lib.hid (R1.out.same hz.below.size fun b h1 h2 => hz.other b (by have hs0 := LTZ.out; have hs1 := LHI.out; have hs2 := SS1.out; first | omega | (simp <;> omega)))
        have N2 := Lib.hid (N1.out.same hz.below.size fun b h1 h2 => hz.other b (by have hs0 := LTZ.out; have hs1 := LHI.out; have hs2 := SS1.out; first | omega | (simp <;> omega)))
        clear hz B1 Z1 R1 N1
        (try simp only [Exit.inBlock, Exit.then])
        refine bodyPost_ret (v := .tuple #[.agg #[.int .i64 0, .int .i64 0, .int .i64 0, .int .i64 0, .bool false, .int .i64 0], .bool false]) ?_ rfl ?_
        · rw [results_cell_tmp1 rfl]
          exact stw.back2 Z2.out Try.underlying25 rfl szB _
        · exact ⟨by rw [HD.out], B2.out⟩
    · have HD := Lib.hid (show db zs = (⟨0, 0, 0, 0, false, 0⟩, false) from db_no_ HDV.out fun h => hi (by rw [HLZ.out]; exact h.1))
      have hi1 : (i != (n : Int)) = true := by simpa using hi
      have hi2 : (i == (n : Int)) = false := by simpa using hi
      clear hi hx
      go_wp2_with (first | (refine stw.list_store rfl 25 _ _ rfl (w.heap.size) #[.int .i64 0, .int .i64 0, .int .i64 0, .int .i64 0, .bool false, .int .i64 0] rfl rfl 25 _ Z1.out rfl szB (oneB _ _ _ _ _ _) ?_; intro wz2 hz))
      have B2 := Lib.hid (hz.on B1.out (by have hs0 := LTZ.out; have hs1 := LHI.out; have hs2 := SS1.out; first | omega | (simp <;> omega)))
      have Z2 := Lib.hid (hz.box)
      have R2 := Lib.hid (R1.out.same hz.below.size fun b h1 h2 => hz.other b (by have hs0 := LTZ.out; have hs1 := LHI.out; have hs2 := SS1.out; first | omega | (simp <;> omega)))
      have N2 := Lib.hid (N1.out.same hz.below.size fun b h1 h2 => hz.other b (by have hs0 := LTZ.out; have hs1 := LHI.out; have hs2 := SS1.out; first | omega | (simp <;> omega)))
      clear hz B1 Z1 R1 N1
      (try simp only [Exit.inBlock, Exit.then])
      refine bodyPost_ret (v := .tuple #[.agg #[.int .i64 0, .int .i64 0, .int .i64 0, .int .i64 0, .bool false, .int .i64 0], .bool false]) ?_ rfl ?_
      · rw [results_cell_tmp1 rfl]
        exact stw.back2 Z2.out Try.underlying25 rfl szB _
      · exact ⟨by rw [HD.out], B2.out⟩
  | false =>
    have HD := Lib.hid (show db zs = (⟨0, 0, 0, 0, false, 0⟩, false) from db_dv HDV.out)
    go_wp2_with (first | (refine stw.list_store rfl 25 _ _ rfl (w.heap.size) #[.int .i64 0, .int .i64 0, .int .i64 0, .int .i64 0, .bool false, .int .i64 0] rfl rfl 25 _ Z1.out rfl szB (oneB _ _ _ _ _ _) ?_; intro wz2 hz))
    have B2 := Lib.hid (hz.on B1.out (by have hs0 := LTZ.out; have hs1 := LHI.out; have hs2 := SS1.out; first | omega | (simp <;> omega)))
    have Z2 := Lib.hid (hz.box)
    have R2 := Lib.hid (R1.out.same hz.below.size fun b h1 h2 => hz.other b (by have hs0 := LTZ.out; have hs1 := LHI.out; have hs2 := SS1.out; first | omega | (simp <;> omega)))
    have N2 := Lib.hid (N1.out.same hz.below.size fun b h1 h2 => hz.other b (by have hs0 := LTZ.out; have hs1 := LHI.out; have hs2 := SS1.out; first | omega | (simp <;> omega)))
    clear hz B1 Z1 R1 N1
    (try simp only [Exit.inBlock, Exit.then])
    refine bodyPost_ret (v := .tuple #[.agg #[.int .i64 0, .int .i64 0, .int .i64 0, .int .i64 0, .bool false, .int .i64 0], .bool false]) ?_ rfl ?_
    · rw [results_cell_tmp1 rfl]
      exact stw.back2 Z2.out Try.underlying25 rfl szB _
    · exact ⟨by rw [HD.out], B2.out⟩
end Go.Proofs.Ytalfihfielgmpaa.be
