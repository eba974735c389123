/- Merged texts of this seat. Rx2: ReceiveFrame of the specification. Condition: at most 2^25 symbols. | Rx3: receive of the program. Condition: at most 2^25 symbols. | Rx4: ReceiveFrame of the program. Conditions: at most 2^25 symbols; package errors' variable errorType holds the handle of the type error. | LReceiveFrame: The law function of FnExactReceiveFrame returns true and leaves what was there. Condition: the slices among the arguments are slices that came in. -/
import Derived.Test.YtdelpepepbkjmaaGreatDoorG5
import Derived.Test.YtdelpepepbkjmaaGreatDoorG6
section
namespace Go.Proofs.YtdelpepepbkjmaaGreatDoor.phs
open Go.RowKit sl harn rng phm
set_option linter.unusedVariables false

theorem results_cell_tmp2 {fn : Func} {p u v : Tmp} {ty : TypeId} (h : fn.results = #[.cell p ty, .tmp u, .tmp v]) (tmps : Array Value) (P : Program) (w : World) :
    (results fn tmps).run P w =
      ((asAddr (tmps.getD p undef)).run P w).andThen fun a w₁ => ((loadVar ty a).run P w₁).andThen fun x w₂ => .ok (.tuple #[x, tmps.getD u undef, tmps.getD v undef]) w₂ := by
  simp only [results, h]
  simp [Sem.run_bind, Result.andThen]
/-- What a receiving hands back. -/
def RxPost (t : (Int × Int × Int) × List Int × Int) (w : World) (e : Ending) (w' : World) : Prop :=
  ∃ A m c, e = .returned (.tuple #[.agg #[.int .i64 t.1.1, .int .i64 t.1.2.1, .int .i64 t.1.2.2], .slice A m c, .int .i64 t.2.2]) ∧ Ow 5 .u8 w' w.heap.size w'.heap.size A m c t.2.1 ∧ Below w.heap.size w w'
theorem rx_parts {t : (Int × Int × Int) × List Int × Int} {a b c : Int} {p : List Int} {q : Int} (ht : t = ((a, b, c), p, q)) {w w' : World} {e : Ending} (h : RxPost t w e w') :
    ∃ A m cc, e = .returned (.tuple #[.agg #[.int .i64 a, .int .i64 b, .int .i64 c], .slice A m cc, .int .i64 q]) ∧ Ow 5 .u8 w' w.heap.size w'.heap.size A m cc p ∧ Below w.heap.size w w' := by
  subst ht; exact h
theorem ow_other {E : TypeId} {k : IntKind} {w : World} {lo hi n cap : Nat} {A : Option Addr} {zs : List Int} (h : Ow E k w lo hi A n cap zs) {q : Addr} (hq : q.block < lo) (v : Value) : Ow E k (w.setCell q v) lo hi A n cap zs :=
  h.same (by simp [World.setCell]) fun b hb _ => Below.heap_setCell _ _ _ _ (by omega)
theorem rx_plain {t : (Int × Int × Int) × List Int × Int} {a b c : Int} {p : List Int} {q : Int} (ht : t = ((a, b, c), p, q)) {w W : World} {A : Option Addr} {m cc lo hi : Nat} (ho : Ow 5 .u8 W lo hi A m cc p) (hlo : w.heap.size ≤ lo) (hb : Below w.heap.size w W) :
    RxPost t w (.returned (.tuple #[.agg #[.int .i64 a, .int .i64 b, .int .i64 c], .slice A m cc, .int .i64 q])) W := by
  subst ht
  exact ⟨A, m, cc, rfl, (ho.down hlo).up, hb⟩
/-- What is received, by the check. -/
structure RxC (zs : List Int) (r l s : Int) (ps : List Int) (z : Bool) : Prop where
  yes : z = true → rx zs = ((r, l, s), ps, 0)
  no : z = false → rx zs = ((r, l, s), [], 2)
theorem rx_end {t : (Int × Int × Int) × List Int × Int} {a b c : Int} {p : List Int} {q : Int} (ht : t = ((a, b, c), p, q)) {w W : World} {A : Option Addr} {m cc lo hi : Nat} (ho : Ow 5 .u8 W lo hi A m cc p) (hlo : w.heap.size < lo) (hb : Below w.heap.size w W) :
    RxPost t w (.returned (.tuple #[.agg #[.int .i64 a, .int .i64 b, .int .i64 c], .slice A m cc, .int .i64 q])) (((W.setCell ⟨w.heap.size, 0, none⟩ (.int .i64 a)).setCell ⟨w.heap.size, 1, none⟩ (.int .i64 b)).setCell ⟨w.heap.size, 2, none⟩ (.int .i64 c)) := by
  subst ht
  exact ⟨A, m, cc, rfl, ((ow_other (ow_other (ow_other ho (q := ⟨w.heap.size, 0, none⟩) hlo _) (q := ⟨w.heap.size, 1, none⟩) hlo _) (q := ⟨w.heap.size, 2, none⟩) hlo _).down (Nat.le_of_lt hlo)).up,
    ((hb.setCell (p := ⟨w.heap.size, 0, none⟩) (Nat.le_refl _) _).setCell (p := ⟨w.heap.size, 1, none⟩) (Nat.le_refl _) _).setCell (p := ⟨w.heap.size, 2, none⟩) (Nat.le_refl _) _⟩
set_option maxRecDepth 100000 in
set_option maxHeartbeats 8000000 in
theorem specRx (zs : List Int) (lo hi : Nat) (A : Option Addr) (n cap : Nat) (w : World) (h : Rd .i64 w lo hi A n cap zs) (hn : n ≤ 33554432) :
    Calls Tryz.prog 16 #[.slice A n cap] w (RxPost (rx zs) w) := by
  obtain ⟨i0, hi0, hz0, hz1, hz2⟩ := info_parts intInfo
  have hcp := h.cap_
  have HL := Lib.hid h.len
  have HR := Lib.hid h
  by_cases h54 : n < 54
  · have HX := Lib.hid (show rx zs = ((0, 0, 0), [], 1) from rx_bad (dh_no fun g => by have := g.1; rw [List.length_take, h.len] at this; omega))
    have h2 : (n : Int) < 54 := by omega
    have S_w1 := Lib.hid (show w.heap.size < (w.alloc (.cells #[.int .i64 0, .int .i64 0, .int .i64 0] 25)).heap.size by simp)
    have B1 := Lib.hid (below_box w (.cells #[.int .i64 0, .int .i64 0, .int .i64 0] 25))
    clear h h54 hi0 hz0 hz1 hz2
    go_enter Tryz.func16, Tryz.ntmps16
    go_wp2_with fail
    (try simp only [Exit.inBlock, Exit.then])
    refine bodyPost_ret (v := .tuple #[.agg #[.int .i64 0, .int .i64 0, .int .i64 0], .slice (some ⟨w.heap.size + 1, 0, none⟩) 0 0, .int .i64 1]) ?_ rfl ?_
    · rw [results_cell_tmp2 rfl]
      go_simp
    · exact by have := rx_plain HX.out (Ow.empty 5 .u8 (w.alloc (.cells #[.int .i64 0, .int .i64 0, .int .i64 0] 25))) (Nat.le_of_lt S_w1.out) (B1.out.alloc B1.out.size _); simpa using this
  · have h2 : ¬ (n : Int) < 54 := by omega
    obtain ⟨A1, hA1, sl1⟩ := cuts.slice_pre (P := Tryz.prog) 28 3 i0 Tryz.underlying28 hi0 hz1 A n cap 54 (by omega)
    obtain ⟨A2, hA2, sl2⟩ := cuts.slice_post (P := Tryz.prog) 28 3 i0 Tryz.underlying28 hi0 hz1 A n cap 54 (by omega) (by omega)
    have sl1 : ∀ W, (Instr.slice 28 (.slice A n cap) none (some (.int .i64 54)) none).run Tryz.prog W = .ok (.slice A1 54 cap) W := sl1
    have sl2 : ∀ W, (Instr.slice 28 (.slice A n cap) (some (.int .i64 54)) none none).run Tryz.prog W = .ok (.slice A2 (n - 54) (cap - 54)) W := sl2
    have R1 := Lib.hid (cuts.rd_pre h (j := 54) (by omega) A1 hA1)
    have R2 := Lib.hid (cuts.rd_post h (j := 54) (by omega) A2 hA2)
    clear h hA1 hA2 hi0 hz0 hz1 hz2
    rcases dh_cases (zs.take 54) with ⟨r, l, s, hd, hv, h54'⟩ | hd
    · have HD := Lib.hid hd
      have HV := Lib.hid hv
      obtain ⟨q, hq⟩ : ∃ q, psy r l s = q := ⟨_, rfl⟩
      have hqin := psy_in hv
      rw [hq] at hqin
      have HQ := Lib.hid hq
      have HFS := Lib.hid (show fsy r l s = 54 + q by rw [← hq]; exact fsy_yes hv)
      have HLL := Lib.hid hv.2.1
      clear hq
      by_cases hnq : (n : Int) - 54 = q
      · obtain ⟨U, xs, ys, ps, d, t, z, hu⟩ := un_ex r l s (zs.drop 54)
        have HU := Lib.hid hu
        have HDL := Lib.hid (show (zs.drop 54).length = n - 54 by rw [List.length_drop, HL.out])
        have LX := Lib.hid (show xs.length ≤ 4000 + n by have := hu.lenx; rw [HDL.out] at this; omega)
        have LY := Lib.hid (show ys.length ≤ 4000 + n by have := hu.leny; rw [HDL.out] at this; omega)
        have HWC := Lib.hid (show (Lit.int .i64 (cl l)).wf = true from wf_num (by have h1 := HLL.out; have := cl_eq h1; omega))
        have HXC := Lib.hid (show RxC zs r l s ps z from ⟨fun hz => rx_ok HD.out (by rw [HL.out, HFS.out]; omega) (by rw [HU.out.all, hz]), fun hz => rx_sum HD.out (by rw [HL.out, HFS.out]; omega) (p := ps) (by rw [HU.out.all, hz])⟩)
        obtain ⟨m, hm⟩ : ∃ m, 8 * (l + 2) = m := ⟨_, rfl⟩
        have HM := Lib.hid (show cvm.enl m = cl l by rw [← hm]; rfl)
        have hll := HLL.out
        have hnq2 : ((n : Int) - 54 == q) = true := by simpa using hnq
        clear hu h54' hd hv
        go_enter Tryz.func16, Tryz.ntmps16
        go_wp2_with fail
        generalize hW0 : w.alloc (.cells #[.int .i64 0, .int .i64 0, .int .i64 0] 25) = w0
        have X0 := Lib.hid (show Box w0 w.heap.size 0 0 0 by rw [← hW0]; exact Box.made _ _ _ _)
        have B0 := Lib.hid (show Below w.heap.size w w0 by rw [← hW0]; exact below_box _ _)
        clear hW0
        (with_reducible refine (specDec (zs.take 54) _ _ A1 54 cap _ (Rd.upto R1.out B0.out R1.out.hi_)).mono ?_)
        rintro e w1 hpost
        obtain ⟨rfl, hb⟩ := d_parts HD.out hpost
        have X1 := Lib.hid (X0.out.below hb)
        have B1 := Lib.hid (B0.out.trans (hb.mono B0.out.size))
        clear hb hpost X0 B0
        obtain ⟨b5, hb5⟩ : ∃ b5, b5 = w1.heap.size := ⟨_, rfl⟩
        obtain ⟨w2, hW2⟩ : ∃ w2, w2 = w1.alloc (.cells #[.int .i64 r, .int .i64 l, .int .i64 s] 25) := ⟨_, rfl⟩
        have X2 := Lib.hid (show Box w2 w.heap.size 0 0 0 by rw [hW2]; exact X1.out.below (below_box _ _))
        have Y2 := Lib.hid (show Box w2 b5 r l s by rw [hW2, hb5]; exact Box.made _ _ _ _)
        have B2 := Lib.hid (show Below w.heap.size w w2 by rw [hW2]; exact B1.out.alloc B1.out.size _)
        have S5 := Lib.hid (show w.heap.size < b5 by rw [hb5]; exact X1.out.lt)
        have S_w2 := Lib.hid X2.out.lt
        clear X1 B1
        have y0 := Y2.out.c0
        have y1 := Y2.out.c1
        have y2 := Y2.out.c2
        go_wp2_with fail
        rw [← hW2, ← hb5]
        clear hW2 hb5
        (with_reducible refine (specPsy r l s _).mono ?_)
        rw [HQ.out]
        rintro e w3 ⟨rfl, hb⟩
        have X3 := Lib.hid (X2.out.below hb)
        have Y3 := Lib.hid (Y2.out.below hb)
        have B3 := Lib.hid (B2.out.trans (hb.mono B2.out.size))
        clear hb y0 y1 y2
        go_wp2_with fail
        (with_reducible refine (itl.specDei (zs.drop 54) 8 _ _ A2 (n - 54) (cap - 54) _ (Rd.upto R2.out B3.out R2.out.hi_) (by omega)).mono ?_)
        rintro e w4 ⟨A4, n4, c4, rfl, ho, hb⟩
        have O4 := Lib.hid ho
        have B4 := Lib.hid (B3.out.trans (hb.mono B3.out.size))
        have X4 := Lib.hid (X3.out.below hb)
        have Y4 := Lib.hid (Y3.out.below hb)
        clear ho hb
        have x0 := Y4.out.c0
        have x1 := Y4.out.c1
        by_cases h2r : r = 2
        · subst h2r
          go_wp2_with fail
          (with_reducible refine (cvs.specEnl m _).mono ?_)
          rw [HM.out]
          rintro e w5 ⟨rfl, rfl⟩
          go_wp2_with fail
          (with_reducible refine (cvs.specDp (itm.dei (zs.drop 54) 8) (cl l) HWC.out _ _ A4 n4 c4 _ O4.out.rd).mono ?_)
          rw [HU.out.fast]
          rintro e w5 ⟨AU, nU, cU, rfl, ho, hb⟩
          have OU := Lib.hid ho
          have B5 := Lib.hid (B4.out.trans (hb.mono B4.out.size))
          have X5 := Lib.hid (X4.out.below hb)
          have Y5 := Lib.hid (Y4.out.below hb)
          clear ho hb x0 x1 B4 X4 Y4 O4
          have B4 := B5
          have X4 := X5
          have Y4 := Y5
          have x2 := Y4.out.c2
          go_wp2_with fail
          (with_reducible refine (vts.specVit U _ _ AU nU cU _ OU.out.rd).mono ?_)
          rintro e w6 hpost
          obtain ⟨A6, n6, c6, rfl, ho, hb⟩ := vits_parts HU.out.v hpost
          have O6 := Lib.hid ho
          have N6 := Lib.hid (show n6 ≤ 4000 + n by rw [← ho.len]; exact LX.out)
          have B6 := Lib.hid (B4.out.trans (hb.mono B4.out.size))
          have X6 := Lib.hid (X4.out.below hb)
          have Y6 := Lib.hid (Y4.out.below hb)
          clear ho hb hpost x2
          have x2 := Y6.out.c2
          go_wp2_with fail
          (with_reducible refine (scrs.specScr s xs _ _ A6 n6 c6 _ O6.out.rd (by have := N6.out; omega)).mono ?_)
          rintro e w7 ⟨A7, n7, c7, rfl, ho, hb⟩
          have O7 := Lib.hid ho
          have N7 := Lib.hid (show n7 ≤ 4000 + n by rw [← ho.len, scrm.scr_len]; exact LX.out)
          have B7 := Lib.hid (B6.out.trans (hb.mono B6.out.size))
          have X7 := Lib.hid (X6.out.below hb)
          have Y7 := Lib.hid (Y6.out.below hb)
          clear ho hb x2
          go_wp2_with fail
          (with_reducible refine (bits.specBb (scrm.scr s xs) _ _ A7 n7 c7 _ O7.out.rd (by have := N7.out; omega)).mono ?_)
          rintro e w8 hpost
          obtain ⟨A8, n8, c8, rfl, ho, hb⟩ := hpost.parts HU.out.b
          have O8 := Lib.hid ho
          have N8 := Lib.hid (show n8 ≤ 4000 + n by rw [← ho.len]; exact LY.out)
          have B8 := Lib.hid (B7.out.trans (hb.mono B7.out.size))
          have X8 := Lib.hid (X7.out.below hb)
          have Y8 := Lib.hid (Y7.out.below hb)
          have S_w8 := Lib.hid X8.out.lt
          clear ho hb hpost
          have x0 := X8.out.c0
          have x1 := X8.out.c1
          have x2 := X8.out.c2
          have xf0 := X8.out.free 0
          have xf1 := X8.out.free 1
          have xf2 := X8.out.free 2
          have y0 := Y8.out.c0
          have y1 := Y8.out.c1
          have y2 := Y8.out.c2
          have nb1 : ¬ w.heap.size = b5 := by have := S5.out; omega
          have nb2 : ¬ b5 = w.heap.size := by have := S5.out; omega
          by_cases hd0 : d < 0
          · have HX := Lib.hid (HXC.out.no (HU.out.neg hd0))
            have XE := Lib.hid (X8.out.below (below_box w8 (.cells #[] 5)))
            have z0 := XE.out.c0
            have z1 := XE.out.c1
            have z2 := XE.out.c2
            have zf0 := XE.out.free 0
            have zf1 := XE.out.free 1
            have zf2 := XE.out.free 2
            go_wp2_with fail
            (try simp only [Exit.inBlock, Exit.then])
            refine bodyPost_ret (v := .tuple #[.agg #[.int .i64 2, .int .i64 l, .int .i64 s], .slice (some ⟨w8.heap.size, 0, none⟩) 0 0, .int .i64 2]) ?_ rfl ?_
            · rw [results_cell_tmp2 rfl]
              go_simp
            · exact rx_end HX.out (Ow.empty 5 .u8 w8) (by have := S_w8.out; omega) (B8.out.alloc B8.out.size _)
          · cases t with
            | false =>
              have HX := Lib.hid (HXC.out.no HU.out.bad)
              have XE := Lib.hid (X8.out.below (below_box w8 (.cells #[] 5)))
              have z0 := XE.out.c0
              have z1 := XE.out.c1
              have z2 := XE.out.c2
              have zf0 := XE.out.free 0
              have zf1 := XE.out.free 1
              have zf2 := XE.out.free 2
              go_wp2_with fail
              (try simp only [Exit.inBlock, Exit.then])
              refine bodyPost_ret (v := .tuple #[.agg #[.int .i64 2, .int .i64 l, .int .i64 s], .slice (some ⟨w8.heap.size, 0, none⟩) 0 0, .int .i64 2]) ?_ rfl ?_
              · rw [results_cell_tmp2 rfl]
                go_simp
              · exact rx_end HX.out (Ow.empty 5 .u8 w8) (by have := S_w8.out; omega) (B8.out.alloc B8.out.size _)
            | true =>
              go_wp2_with fail
              (with_reducible refine (crcs.specCheck ys _ _ A8 n8 c8 _ O8.out.rd (by have := N8.out; omega)).mono ?_)
              rintro e w9 hpost
              obtain ⟨A9, n9, c9, rfl, ho, hb⟩ := hpost.parts HU.out.c
              have O9 := Lib.hid ho
              have B9 := Lib.hid (B8.out.trans (hb.mono B8.out.size))
              have X9 := Lib.hid (X8.out.below hb)
              have Y9 := Lib.hid (Y8.out.below hb)
              have S_w9 := Lib.hid X9.out.lt
              clear ho hb hpost x0 x1 x2 xf0 xf1 xf2 y0 y1 y2
              have x0 := X9.out.c0
              have x1 := X9.out.c1
              have x2 := X9.out.c2
              have xf0 := X9.out.free 0
              have xf1 := X9.out.free 1
              have xf2 := X9.out.free 2
              have y0 := Y9.out.c0
              have y1 := Y9.out.c1
              have y2 := Y9.out.c2
              cases z with
              | false =>
                have HX := Lib.hid (HXC.out.no rfl)
                have XE := Lib.hid (X9.out.below (below_box w9 (.cells #[] 5)))
                have z0 := XE.out.c0
                have z1 := XE.out.c1
                have z2 := XE.out.c2
                have zf0 := XE.out.free 0
                have zf1 := XE.out.free 1
                have zf2 := XE.out.free 2
                go_wp2_with fail
                (try simp only [Exit.inBlock, Exit.then])
                refine bodyPost_ret (v := .tuple #[.agg #[.int .i64 2, .int .i64 l, .int .i64 s], .slice (some ⟨w9.heap.size, 0, none⟩) 0 0, .int .i64 2]) ?_ rfl ?_
                · rw [results_cell_tmp2 rfl]
                  go_simp
                · exact rx_end HX.out (Ow.empty 5 .u8 w9) (by have := S_w9.out; omega) (B9.out.alloc B9.out.size _)
              | true =>
                have HX := Lib.hid (HXC.out.yes rfl)
                go_wp2_with fail
                (try simp only [Exit.inBlock, Exit.then])
                refine bodyPost_ret (v := .tuple #[.agg #[.int .i64 2, .int .i64 l, .int .i64 s], .slice A9 n9 c9, .int .i64 0]) ?_ rfl ?_
                · rw [results_cell_tmp2 rfl]
                  go_simp
                · exact rx_end HX.out O9.out S_w8.out B9.out
        · have h3r : (r == 2) = false := by simpa using h2r
          have OU := O4
          rw [HU.out.slow h2r] at OU
          obtain ⟨AU, hAU⟩ : ∃ x, x = A4 := ⟨_, rfl⟩
          obtain ⟨nU, hnU⟩ : ∃ x, x = n4 := ⟨_, rfl⟩
          obtain ⟨cU, hcU⟩ : ∃ x, x = c4 := ⟨_, rfl⟩
          subst hAU hnU hcU
          have x2 := Y4.out.c2
          go_wp2_with fail
          (with_reducible refine (vts.specVit U _ _ AU nU cU _ OU.out.rd).mono ?_)
          rintro e w6 hpost
          obtain ⟨A6, n6, c6, rfl, ho, hb⟩ := vits_parts HU.out.v hpost
          have O6 := Lib.hid ho
          have N6 := Lib.hid (show n6 ≤ 4000 + n by rw [← ho.len]; exact LX.out)
          have B6 := Lib.hid (B4.out.trans (hb.mono B4.out.size))
          have X6 := Lib.hid (X4.out.below hb)
          have Y6 := Lib.hid (Y4.out.below hb)
          clear ho hb hpost x2
          have x2 := Y6.out.c2
          go_wp2_with fail
          (with_reducible refine (scrs.specScr s xs _ _ A6 n6 c6 _ O6.out.rd (by have := N6.out; omega)).mono ?_)
          rintro e w7 ⟨A7, n7, c7, rfl, ho, hb⟩
          have O7 := Lib.hid ho
          have N7 := Lib.hid (show n7 ≤ 4000 + n by rw [← ho.len, scrm.scr_len]; exact LX.out)
          have B7 := Lib.hid (B6.out.trans (hb.mono B6.out.size))
          have X7 := Lib.hid (X6.out.below hb)
          have Y7 := Lib.hid (Y6.out.below hb)
          clear ho hb x2
          go_wp2_with fail
          (with_reducible refine (bits.specBb (scrm.scr s xs) _ _ A7 n7 c7 _ O7.out.rd (by have := N7.out; omega)).mono ?_)
          rintro e w8 hpost
          obtain ⟨A8, n8, c8, rfl, ho, hb⟩ := hpost.parts HU.out.b
          have O8 := Lib.hid ho
          have N8 := Lib.hid (show n8 ≤ 4000 + n by rw [← ho.len]; exact LY.out)
          have B8 := Lib.hid (B7.out.trans (hb.mono B7.out.size))
          have X8 := Lib.hid (X7.out.below hb)
          have Y8 := Lib.hid (Y7.out.below hb)
          have S_w8 := Lib.hid X8.out.lt
          clear ho hb hpost
          have x0 := X8.out.c0
          have x1 := X8.out.c1
          have x2 := X8.out.c2
          have xf0 := X8.out.free 0
          have xf1 := X8.out.free 1
          have xf2 := X8.out.free 2
          have y0 := Y8.out.c0
          have y1 := Y8.out.c1
          have y2 := Y8.out.c2
          have nb1 : ¬ w.heap.size = b5 := by have := S5.out; omega
          have nb2 : ¬ b5 = w.heap.size := by have := S5.out; omega
          by_cases hd0 : d < 0
          · have HX := Lib.hid (HXC.out.no (HU.out.neg hd0))
            have XE := Lib.hid (X8.out.below (below_box w8 (.cells #[] 5)))
            have z0 := XE.out.c0
            have z1 := XE.out.c1
            have z2 := XE.out.c2
            have zf0 := XE.out.free 0
            have zf1 := XE.out.free 1
            have zf2 := XE.out.free 2
            go_wp2_with fail
            (try simp only [Exit.inBlock, Exit.then])
            refine bodyPost_ret (v := .tuple #[.agg #[.int .i64 r, .int .i64 l, .int .i64 s], .slice (some ⟨w8.heap.size, 0, none⟩) 0 0, .int .i64 2]) ?_ rfl ?_
            · rw [results_cell_tmp2 rfl]
              go_simp
            · exact rx_end HX.out (Ow.empty 5 .u8 w8) (by have := S_w8.out; omega) (B8.out.alloc B8.out.size _)
          · cases t with
            | false =>
              have HX := Lib.hid (HXC.out.no HU.out.bad)
              have XE := Lib.hid (X8.out.below (below_box w8 (.cells #[] 5)))
              have z0 := XE.out.c0
              have z1 := XE.out.c1
              have z2 := XE.out.c2
              have zf0 := XE.out.free 0
              have zf1 := XE.out.free 1
              have zf2 := XE.out.free 2
              go_wp2_with fail
              (try simp only [Exit.inBlock, Exit.then])
              refine bodyPost_ret (v := .tuple #[.agg #[.int .i64 r, .int .i64 l, .int .i64 s], .slice (some ⟨w8.heap.size, 0, none⟩) 0 0, .int .i64 2]) ?_ rfl ?_
              · rw [results_cell_tmp2 rfl]
                go_simp
              · exact rx_end HX.out (Ow.empty 5 .u8 w8) (by have := S_w8.out; omega) (B8.out.alloc B8.out.size _)
            | true =>
              go_wp2_with fail
              (with_reducible refine (crcs.specCheck ys _ _ A8 n8 c8 _ O8.out.rd (by have := N8.out; omega)).mono ?_)
              rintro e w9 hpost
              obtain ⟨A9, n9, c9, rfl, ho, hb⟩ := hpost.parts HU.out.c
              have O9 := Lib.hid ho
              have B9 := Lib.hid (B8.out.trans (hb.mono B8.out.size))
              have X9 := Lib.hid (X8.out.below hb)
              have Y9 := Lib.hid (Y8.out.below hb)
              have S_w9 := Lib.hid X9.out.lt
              clear ho hb hpost x0 x1 x2 xf0 xf1 xf2 y0 y1 y2
              have x0 := X9.out.c0
              have x1 := X9.out.c1
              have x2 := X9.out.c2
              have xf0 := X9.out.free 0
              have xf1 := X9.out.free 1
              have xf2 := X9.out.free 2
              have y0 := Y9.out.c0
              have y1 := Y9.out.c1
              have y2 := Y9.out.c2
              cases z with
              | false =>
                have HX := Lib.hid (HXC.out.no rfl)
                have XE := Lib.hid (X9.out.below (below_box w9 (.cells #[] 5)))
                have z0 := XE.out.c0
                have z1 := XE.out.c1
                have z2 := XE.out.c2
                have zf0 := XE.out.free 0
                have zf1 := XE.out.free 1
                have zf2 := XE.out.free 2
                go_wp2_with fail
                (try simp only [Exit.inBlock, Exit.then])
                refine bodyPost_ret (v := .tuple #[.agg #[.int .i64 r, .int .i64 l, .int .i64 s], .slice (some ⟨w9.heap.size, 0, none⟩) 0 0, .int .i64 2]) ?_ rfl ?_
                · rw [results_cell_tmp2 rfl]
                  go_simp
                · exact rx_end HX.out (Ow.empty 5 .u8 w9) (by have := S_w9.out; omega) (B9.out.alloc B9.out.size _)
              | true =>
                have HX := Lib.hid (HXC.out.yes rfl)
                go_wp2_with fail
                (try simp only [Exit.inBlock, Exit.then])
                refine bodyPost_ret (v := .tuple #[.agg #[.int .i64 r, .int .i64 l, .int .i64 s], .slice A9 n9 c9, .int .i64 0]) ?_ rfl ?_
                · rw [results_cell_tmp2 rfl]
                  go_simp
                · exact rx_end HX.out O9.out S_w8.out B9.out
      · have HX := Lib.hid (show rx zs = ((0, 0, 0), [], 1) from rx_len HD.out (by rw [HL.out, HFS.out]; omega))
        have hnq2 : ((n : Int) - 54 == q) = false := by simpa using hnq
        clear h54' hd hv
        go_enter Tryz.func16, Tryz.ntmps16
        go_wp2_with fail
        generalize hW0 : w.alloc (.cells #[.int .i64 0, .int .i64 0, .int .i64 0] 25) = w0
        have X0 := Lib.hid (show Box w0 w.heap.size 0 0 0 by rw [← hW0]; exact Box.made _ _ _ _)
        have B0 := Lib.hid (show Below w.heap.size w w0 by rw [← hW0]; exact below_box _ _)
        clear hW0
        (with_reducible refine (specDec (zs.take 54) _ _ A1 54 cap _ (Rd.upto R1.out B0.out R1.out.hi_)).mono ?_)
        rintro e w1 hpost
        obtain ⟨rfl, hb⟩ := d_parts HD.out hpost
        have X1 := Lib.hid (X0.out.below hb)
        have B1 := Lib.hid (B0.out.trans (hb.mono B0.out.size))
        clear hb hpost X0 B0
        obtain ⟨b5, hb5⟩ : ∃ b5, b5 = w1.heap.size := ⟨_, rfl⟩
        obtain ⟨w2, hW2⟩ : ∃ w2, w2 = w1.alloc (.cells #[.int .i64 r, .int .i64 l, .int .i64 s] 25) := ⟨_, rfl⟩
        have X2 := Lib.hid (show Box w2 w.heap.size 0 0 0 by rw [hW2]; exact X1.out.below (below_box _ _))
        have Y2 := Lib.hid (show Box w2 b5 r l s by rw [hW2, hb5]; exact Box.made _ _ _ _)
        have B2 := Lib.hid (show Below w.heap.size w w2 by rw [hW2]; exact B1.out.alloc B1.out.size _)
        have S5 := Lib.hid (show w.heap.size < b5 by rw [hb5]; exact X1.out.lt)
        have S_w2 := Lib.hid X2.out.lt
        clear X1 B1
        have y0 := Y2.out.c0
        have y1 := Y2.out.c1
        have y2 := Y2.out.c2
        go_wp2_with fail
        rw [← hW2, ← hb5]
        clear hW2 hb5
        (with_reducible refine (specPsy r l s _).mono ?_)
        rw [HQ.out]
        rintro e w3 ⟨rfl, hb⟩
        have X3 := Lib.hid (X2.out.below hb)
        have B3 := Lib.hid (B2.out.trans (hb.mono B2.out.size))
        have S_w3 := Lib.hid X3.out.lt
        clear hb y0 y1 y2
        have x0 := X3.out.c0
        have x1 := X3.out.c1
        have x2 := X3.out.c2
        have xf0 := X3.out.free 0
        have xf1 := X3.out.free 1
        have xf2 := X3.out.free 2
        have XE := Lib.hid (X3.out.below (below_box w3 (.cells #[] 5)))
        have z0 := XE.out.c0
        have z1 := XE.out.c1
        have z2 := XE.out.c2
        have zf0 := XE.out.free 0
        have zf1 := XE.out.free 1
        have zf2 := XE.out.free 2
        go_wp2_with fail
        (try simp only [Exit.inBlock, Exit.then])
        refine bodyPost_ret (v := .tuple #[.agg #[.int .i64 0, .int .i64 0, .int .i64 0], .slice (some ⟨w3.heap.size, 0, none⟩) 0 0, .int .i64 1]) ?_ rfl ?_
        · rw [results_cell_tmp2 rfl]
          go_simp
        · exact rx_end HX.out (Ow.empty 5 .u8 w3) (by have := S_w3.out; omega) (B3.out.alloc B3.out.size _)
    · have HD := Lib.hid hd
      have HX := Lib.hid (rx_bad hd)
      clear hd
      go_enter Tryz.func16, Tryz.ntmps16
      go_wp2_with fail
      generalize hW0 : w.alloc (.cells #[.int .i64 0, .int .i64 0, .int .i64 0] 25) = w0
      have X0 := Lib.hid (show Box w0 w.heap.size 0 0 0 by rw [← hW0]; exact Box.made _ _ _ _)
      have B0 := Lib.hid (show Below w.heap.size w w0 by rw [← hW0]; exact below_box _ _)
      clear hW0
      (with_reducible refine (specDec (zs.take 54) _ _ A1 54 cap _ (Rd.upto R1.out B0.out R1.out.hi_)).mono ?_)
      rintro e w1 hpost
      obtain ⟨rfl, hb⟩ := d_parts HD.out hpost
      have X1 := Lib.hid (X0.out.below hb)
      have B1 := Lib.hid (B0.out.trans (hb.mono B0.out.size))
      clear hb hpost X0 B0
      obtain ⟨b5, hb5⟩ : ∃ b5, b5 = w1.heap.size := ⟨_, rfl⟩
      obtain ⟨w2, hW2⟩ : ∃ w2, w2 = w1.alloc (.cells #[.int .i64 0, .int .i64 0, .int .i64 0] 25) := ⟨_, rfl⟩
      have X2 := Lib.hid (show Box w2 w.heap.size 0 0 0 by rw [hW2]; exact X1.out.below (below_box _ _))
      have Y2 := Lib.hid (show Box w2 b5 0 0 0 by rw [hW2, hb5]; exact Box.made _ _ _ _)
      have B2 := Lib.hid (show Below w.heap.size w w2 by rw [hW2]; exact B1.out.alloc B1.out.size _)
      have S5 := Lib.hid (show w.heap.size < b5 by rw [hb5]; exact X1.out.lt)
      have S_w2 := Lib.hid X2.out.lt
      clear X1 B1
      have XE := Lib.hid (X2.out.below (below_box w2 (.cells #[] 5)))
      have z0 := XE.out.c0
      have z1 := XE.out.c1
      have z2 := XE.out.c2
      have zf0 := XE.out.free 0
      have zf1 := XE.out.free 1
      have zf2 := XE.out.free 2
      rw [hW2] at z0 z1 z2 zf0 zf1 zf2
      go_wp2_with fail
      (try simp only [Exit.inBlock, Exit.then])
      refine bodyPost_ret (v := .tuple #[.agg #[.int .i64 0, .int .i64 0, .int .i64 0], .slice (some ⟨w1.heap.size + 1, 0, none⟩) 0 0, .int .i64 1]) ?_ rfl ?_
      · rw [results_cell_tmp2 rfl]
        go_simp
      · exact by have := rx_end HX.out (Ow.empty 5 .u8 w2) S_w2.out (B2.out.alloc B2.out.size _); rw [hW2] at this; simpa using this
end Go.Proofs.YtdelpepepbkjmaaGreatDoor.phs
end

section
namespace Go.Proofs.YtdelpepepbkjmaaGreatDoor.phs
open Go.RowKit sl harn rng phm
set_option linter.unusedVariables false

/-- What receive hands back: all, or an error that names what there is. -/
def RcvPost (t : (Int × Int × Int) × List Int × Int) (w : World) (e : Ending) (w' : World) : Prop :=
  (∃ a b c p A m cc, t = ((a, b, c), p, 0) ∧ e = .returned (.tuple #[.agg #[.int .i64 a, .int .i64 b, .int .i64 c], .slice A m cc, .nilIface]) ∧ Ow 5 .u8 w' w.heap.size w'.heap.size A m cc p ∧ Below w.heap.size w w') ∨
  (∃ a b c q : Int, t = ((a, b, c), [], q) ∧ e = .returned (.tuple #[.agg #[.int .i64 0, .int .i64 0, .int .i64 0], .slice none 0 0, .iface 57 (.agg #[.int .i64 a, .int .i64 b, .int .i64 c, .int .i64 q])]) ∧ Below w.heap.size w w')
theorem bel3 {w W : World} (hb : Below w.heap.size w W) (u v x : Value) : Below w.heap.size w (((W.setCell ⟨w.heap.size, 0, none⟩ u).setCell ⟨w.heap.size, 1, none⟩ v).setCell ⟨w.heap.size, 2, none⟩ x) :=
  ((hb.setCell (p := ⟨w.heap.size, 0, none⟩) (Nat.le_refl _) _).setCell (p := ⟨w.heap.size, 1, none⟩) (Nat.le_refl _) _).setCell (p := ⟨w.heap.size, 2, none⟩) (Nat.le_refl _) _
theorem ow3 {w W : World} {A : Option Addr} {m cc lo hi : Nat} {p : List Int} (ho : Ow 5 .u8 W lo hi A m cc p) (hlo : w.heap.size < lo) (u v x : Value) : Ow 5 .u8 (((W.setCell ⟨w.heap.size, 0, none⟩ u).setCell ⟨w.heap.size, 1, none⟩ v).setCell ⟨w.heap.size, 2, none⟩ x) w.heap.size (((W.setCell ⟨w.heap.size, 0, none⟩ u).setCell ⟨w.heap.size, 1, none⟩ v).setCell ⟨w.heap.size, 2, none⟩ x).heap.size A m cc p :=
  ((ow_other (ow_other (ow_other ho (q := ⟨w.heap.size, 0, none⟩) hlo u) (q := ⟨w.heap.size, 1, none⟩) hlo v) (q := ⟨w.heap.size, 2, none⟩) hlo x).down (Nat.le_of_lt hlo)).up
set_option maxRecDepth 100000 in
set_option maxHeartbeats 8000000 in
theorem rcv (zs : List Int) (lo hi : Nat) (A : Option Addr) (n cap : Nat) (w : World) (h : Rd .i64 w lo hi A n cap zs) (hn : n ≤ 33554432) :
    Calls Tryz.prog 34 #[.slice A n cap] w (RcvPost (rx zs) w) := by
  obtain ⟨i0, hi0, hz0, hz1, hz2⟩ := info_parts intInfo
  have hcp := h.cap_
  have HL := Lib.hid h.len
  have HR := Lib.hid h
  by_cases h54 : n < 54
  · have HD := Lib.hid (show dh zs = ((0, 0, 0), false) from dh_no fun g => by have := g.1; rw [h.len] at this; omega)
    have HX := Lib.hid (show rx zs = ((0, 0, 0), [], 1) from rx_bad (dh_no fun g => by have := g.1; rw [List.length_take, h.len] at this; omega))
    have HMIN := Lib.hid (show (n : Int) = if (54 : Int) < n then 54 else (n : Int) by rw [if_neg (by omega)])
    obtain ⟨A1, hA1, sl1⟩ := cuts.slice_pre (P := Tryz.prog) 28 3 i0 Tryz.underlying28 hi0 hz1 A n cap n (by omega)
    have R1 := Lib.hid (show Rd .i64 w lo hi A1 n cap zs by have := cuts.rd_pre h (j := n) (Nat.le_refl _) A1 hA1; rwa [List.take_of_length_le (by rw [h.len]; exact Nat.le_refl _)] at this)
    clear h hA1 h54 hi0 hz0 hz1 hz2
    go_enter Tryz.func34, Tryz.ntmps34
    go_wp2_with fail
    generalize hW0 : w.alloc (.cells #[.int .i64 0, .int .i64 0, .int .i64 0] 25) = w0
    have X0 := Lib.hid (show Box w0 w.heap.size 0 0 0 by rw [← hW0]; exact Box.made _ _ _ _)
    have B0 := Lib.hid (show Below w.heap.size w w0 by rw [← hW0]; exact below_box _ _)
    clear hW0
    (with_reducible refine (implMin n 54 n HMIN.out _).mono ?_)
    rintro e wm ⟨rfl, hb⟩
    have XM := Lib.hid (X0.out.below hb)
    have BM := Lib.hid (B0.out.trans (hb.mono B0.out.size))
    clear hb X0 B0
    go_wp2_with fail
    (with_reducible refine (implDec (zs) _ _ A1 n cap _ (Rd.upto R1.out BM.out R1.out.hi_)).mono ?_)
    rintro e w1 hpost
    obtain ⟨rfl, hb⟩ := d_parts HD.out hpost
    have X1 := Lib.hid (XM.out.below hb)
    have B1 := Lib.hid (BM.out.trans (hb.mono BM.out.size))
    clear hb hpost XM BM
    obtain ⟨b5, hb5⟩ : ∃ b5, b5 = w1.heap.size := ⟨_, rfl⟩
    obtain ⟨w2, hW2⟩ : ∃ w2, w2 = w1.alloc (.cells #[.int .i64 0, .int .i64 0, .int .i64 0] 25) := ⟨_, rfl⟩
    have X2 := Lib.hid (show Box w2 w.heap.size 0 0 0 by rw [hW2]; exact X1.out.below (below_box _ _))
    have Y2 := Lib.hid (show Box w2 b5 0 0 0 by rw [hW2, hb5]; exact Box.made _ _ _ _)
    have B2 := Lib.hid (show Below w.heap.size w w2 by rw [hW2]; exact B1.out.alloc B1.out.size _)
    have S5 := Lib.hid (show w.heap.size < b5 by rw [hb5]; exact X1.out.lt)
    have S_w2 := Lib.hid X2.out.lt
    clear X1 B1
    have z0 := X2.out.c0
    have z1 := X2.out.c1
    have z2 := X2.out.c2
    have zf0 := X2.out.free 0
    have zf1 := X2.out.free 1
    have zf2 := X2.out.free 2
    rw [hW2] at z0 z1 z2 zf0 zf1 zf2
    go_wp2_with fail
    rw [← hW2]
    (try simp only [Exit.inBlock, Exit.then])
    refine bodyPost_ret (v := .tuple #[.agg #[.int .i64 0, .int .i64 0, .int .i64 0], .slice none 0 0, .iface 57 (.agg #[.int .i64 0, .int .i64 0, .int .i64 0, .int .i64 1])]) ?_ rfl ?_
    · rw [results_cell_tmp2 rfl]
      go_simp
    · exact Or.inr ⟨0, 0, 0, 1, HX.out, rfl, bel3 B2.out _ _ _⟩
  · have h2 : ¬ (n : Int) < 54 := by omega
    have HMIN := Lib.hid (show (54 : Int) = if (54 : Int) < n then 54 else (n : Int) by split <;> omega)
    obtain ⟨A1, hA1, sl1⟩ := cuts.slice_pre (P := Tryz.prog) 28 3 i0 Tryz.underlying28 hi0 hz1 A n cap 54 (by omega)
    obtain ⟨A2, hA2, sl2⟩ := cuts.slice_post (P := Tryz.prog) 28 3 i0 Tryz.underlying28 hi0 hz1 A n cap 54 (by omega) (by omega)
    have sl1 : ∀ W, (Instr.slice 28 (.slice A n cap) none (some (.int .i64 54)) none).run Tryz.prog W = .ok (.slice A1 54 cap) W := sl1
    have sl2 : ∀ W, (Instr.slice 28 (.slice A n cap) (some (.int .i64 54)) none none).run Tryz.prog W = .ok (.slice A2 (n - 54) (cap - 54)) W := sl2
    have R1 := Lib.hid (cuts.rd_pre h (j := 54) (by omega) A1 hA1)
    have R2 := Lib.hid (cuts.rd_post h (j := 54) (by omega) A2 hA2)
    clear h hA1 hA2 hi0 hz0 hz1 hz2
    rcases dh_cases (zs.take 54) with ⟨r, l, s, hd, hv, h54'⟩ | hd
    · have HD := Lib.hid hd
      obtain ⟨q, hq⟩ : ∃ q, fsy r l s = q := ⟨_, rfl⟩
      have HQ := Lib.hid hq
      have HLL := Lib.hid hv.2.1
      by_cases hnq : (n : Int) = q
      · obtain ⟨ps, z, hu⟩ : ∃ ps z, unpay r l s (zs.drop 54) = (ps, z) := ⟨_, _, rfl⟩
        have HU := Lib.hid hu
        have HXC := Lib.hid (show RxC zs r l s ps z from ⟨fun hz => rx_ok hd (by rw [HL.out, hq]; exact hnq) (by rw [hu, hz]), fun hz => rx_sum hd (by rw [HL.out, hq]; exact hnq) (p := ps) (by rw [hu, hz])⟩)
        have HNQ := Lib.hid (show ((n : Int) == q) = true by simpa using hnq)
        clear hu h54' hd hv hq hnq
        go_enter Tryz.func34, Tryz.ntmps34
        go_wp2_with fail
        generalize hW0 : w.alloc (.cells #[.int .i64 0, .int .i64 0, .int .i64 0] 25) = w0
        have X0 := Lib.hid (show Box w0 w.heap.size 0 0 0 by rw [← hW0]; exact Box.made _ _ _ _)
        have B0 := Lib.hid (show Below w.heap.size w w0 by rw [← hW0]; exact below_box _ _)
        clear hW0
        (with_reducible refine (implMin n 54 54 HMIN.out _).mono ?_)
        rintro e wm ⟨rfl, hb⟩
        have XM := Lib.hid (X0.out.below hb)
        have BM := Lib.hid (B0.out.trans (hb.mono B0.out.size))
        clear hb X0 B0
        go_wp2_with fail
        (with_reducible refine (implDec (zs.take 54) _ _ A1 54 cap _ (Rd.upto R1.out BM.out R1.out.hi_)).mono ?_)
        rintro e w1 hpost
        obtain ⟨rfl, hb⟩ := d_parts HD.out hpost
        have X1 := Lib.hid (XM.out.below hb)
        have B1 := Lib.hid (BM.out.trans (hb.mono BM.out.size))
        clear hb hpost XM BM
        obtain ⟨b5, hb5⟩ : ∃ b5, b5 = w1.heap.size := ⟨_, rfl⟩
        obtain ⟨w2, hW2⟩ : ∃ w2, w2 = w1.alloc (.cells #[.int .i64 r, .int .i64 l, .int .i64 s] 25) := ⟨_, rfl⟩
        have X2 := Lib.hid (show Box w2 w.heap.size 0 0 0 by rw [hW2]; exact X1.out.below (below_box _ _))
        have Y2 := Lib.hid (show Box w2 b5 r l s by rw [hW2, hb5]; exact Box.made _ _ _ _)
        have B2 := Lib.hid (show Below w.heap.size w w2 by rw [hW2]; exact B1.out.alloc B1.out.size _)
        have S5 := Lib.hid (show w.heap.size < b5 by rw [hb5]; exact X1.out.lt)
        have S_w2 := Lib.hid X2.out.lt
        clear X1 B1
        have y0 := Y2.out.c0
        have y1 := Y2.out.c1
        have y2 := Y2.out.c2
        go_wp2_with fail
        rw [← hW2, ← hb5]
        clear hW2 hb5
        (with_reducible refine (implFsy r l s _).mono ?_)
        rw [HQ.out]
        rintro e w3 ⟨rfl, hb⟩
        have X3 := Lib.hid (X2.out.below hb)
        have Y3 := Lib.hid (Y2.out.below hb)
        have B3 := Lib.hid (B2.out.trans (hb.mono B2.out.size))
        clear hb y0 y1 y2
        have y0 := Y3.out.c0
        have y1 := Y3.out.c1
        have y2 := Y3.out.c2
        have X3D := Lib.hid (show Box w3.drew w.heap.size 0 0 0 from X3.out)
        have Y3D := Lib.hid (show Box w3.drew b5 r l s from Y3.out)
        have B3D := Lib.hid (own.below_drew B3.out)
        have hnq2 := HNQ.out
        have R3D := Lib.hid (show Rd .i64 w3.drew lo hi A2 (n - 54) (cap - 54) (zs.drop 54) from Rd.upto R2.out B3D.out R2.out.hi_)
        go_wp2_with fail
        go_region_held3 (fun w' => w'.cell? ⟨b5, 0, none⟩ = some (.int .i64 r) ∧ w'.cell? ⟨b5, 1, none⟩ = some (.int .i64 l) ∧ w'.cell? ⟨b5, 2, none⟩ = some (.int .i64 s)) (first | exact ⟨y0, y1, y2⟩ | exact ⟨k0, k1, k2⟩)
          (first
          | (go_at_call 65; refine (decPay r l s HLL.out (zs.drop 54) _ _ A2 (n - 54) (cap - 54) _ R3D.out (by omega)).mono ?_; rintro e w4 hpost; obtain ⟨A4, n4, c4, rfl, ho, hb⟩ := hpost.parts HU.out; have O4 := Lib.hid ho; have X4 := Lib.hid (X3D.out.below hb); have Y4 := Lib.hid (Y3D.out.below hb); have B4 := Lib.hid (B3D.out.trans (hb.mono B3D.out.size)); have S_w3 := Lib.hid (show w.heap.size < w3.drew.heap.size from X3.out.lt); have k0 := Y4.out.c0; have k1 := Y4.out.c1; have k2 := Y4.out.c2; clear ho hb hpost))
        have x0 := X4.out.c0
        have x1 := X4.out.c1
        have x2 := X4.out.c2
        have xf0 := X4.out.free 0
        have xf1 := X4.out.free 1
        have xf2 := X4.out.free 2
        have nb1 : ¬ w.heap.size = b5 := by have := S5.out; omega
        have nb2 : ¬ b5 = w.heap.size := by have := S5.out; omega
        clear y0 y1 y2
        cases z with
        | false =>
          have HX := Lib.hid (HXC.out.no rfl)
          go_wp2_with fail
          go_region
          go_wp2_with fail
          (try simp only [Exit.inBlock, Exit.then])
          refine bodyPost_ret (v := .tuple #[.agg #[.int .i64 0, .int .i64 0, .int .i64 0], .slice none 0 0, .iface 57 (.agg #[.int .i64 r, .int .i64 l, .int .i64 s, .int .i64 2])]) ?_ rfl ?_
          · rw [results_cell_tmp2 rfl]
            go_simp
          · exact Or.inr ⟨r, l, s, 2, HX.out, rfl, own.below_drew (bel3 B4.out _ _ _)⟩
        | true =>
          have HX := Lib.hid (HXC.out.yes rfl)
          go_wp2_with fail
          (try simp only [Exit.inBlock, Exit.then])
          refine bodyPost_ret (v := .tuple #[.agg #[.int .i64 r, .int .i64 l, .int .i64 s], .slice A4 n4 c4, .nilIface]) ?_ rfl ?_
          · rw [results_cell_tmp2 rfl]
            go_simp
          · exact Or.inl ⟨r, l, s, ps, A4, n4, c4, HX.out, rfl, ow3 O4.out S_w3.out _ _ _, bel3 B4.out _ _ _⟩
      · have HX := Lib.hid (show rx zs = ((0, 0, 0), [], 1) from rx_len hd (by rw [HL.out, hq]; exact hnq))
        have hnq2 : ((n : Int) == q) = false := by simpa using hnq
        clear h54' hd hv hq
        go_enter Tryz.func34, Tryz.ntmps34
        go_wp2_with fail
        generalize hW0 : w.alloc (.cells #[.int .i64 0, .int .i64 0, .int .i64 0] 25) = w0
        have X0 := Lib.hid (show Box w0 w.heap.size 0 0 0 by rw [← hW0]; exact Box.made _ _ _ _)
        have B0 := Lib.hid (show Below w.heap.size w w0 by rw [← hW0]; exact below_box _ _)
        clear hW0
        (with_reducible refine (implMin n 54 54 HMIN.out _).mono ?_)
        rintro e wm ⟨rfl, hb⟩
        have XM := Lib.hid (X0.out.below hb)
        have BM := Lib.hid (B0.out.trans (hb.mono B0.out.size))
        clear hb X0 B0
        go_wp2_with fail
        (with_reducible refine (implDec (zs.take 54) _ _ A1 54 cap _ (Rd.upto R1.out BM.out R1.out.hi_)).mono ?_)
        rintro e w1 hpost
        obtain ⟨rfl, hb⟩ := d_parts HD.out hpost
        have X1 := Lib.hid (XM.out.below hb)
        have B1 := Lib.hid (BM.out.trans (hb.mono BM.out.size))
        clear hb hpost XM BM
        obtain ⟨b5, hb5⟩ : ∃ b5, b5 = w1.heap.size := ⟨_, rfl⟩
        obtain ⟨w2, hW2⟩ : ∃ w2, w2 = w1.alloc (.cells #[.int .i64 r, .int .i64 l, .int .i64 s] 25) := ⟨_, rfl⟩
        have X2 := Lib.hid (show Box w2 w.heap.size 0 0 0 by rw [hW2]; exact X1.out.below (below_box _ _))
        have Y2 := Lib.hid (show Box w2 b5 r l s by rw [hW2, hb5]; exact Box.made _ _ _ _)
        have B2 := Lib.hid (show Below w.heap.size w w2 by rw [hW2]; exact B1.out.alloc B1.out.size _)
        have S5 := Lib.hid (show w.heap.size < b5 by rw [hb5]; exact X1.out.lt)
        have S_w2 := Lib.hid X2.out.lt
        clear X1 B1
        have y0 := Y2.out.c0
        have y1 := Y2.out.c1
        have y2 := Y2.out.c2
        go_wp2_with fail
        rw [← hW2, ← hb5]
        clear hW2 hb5
        (with_reducible refine (implFsy r l s _).mono ?_)
        rw [HQ.out]
        rintro e w3 ⟨rfl, hb⟩
        have X3 := Lib.hid (X2.out.below hb)
        have B3 := Lib.hid (B2.out.trans (hb.mono B2.out.size))
        clear hb y0 y1 y2
        have z0 := X3.out.c0
        have z1 := X3.out.c1
        have z2 := X3.out.c2
        have zf0 := X3.out.free 0
        have zf1 := X3.out.free 1
        have zf2 := X3.out.free 2
        go_wp2_with fail
        (try simp only [Exit.inBlock, Exit.then])
        refine bodyPost_ret (v := .tuple #[.agg #[.int .i64 0, .int .i64 0, .int .i64 0], .slice none 0 0, .iface 57 (.agg #[.int .i64 0, .int .i64 0, .int .i64 0, .int .i64 1])]) ?_ rfl ?_
        · rw [results_cell_tmp2 rfl]
          go_simp
        · exact Or.inr ⟨0, 0, 0, 1, HX.out, rfl, bel3 B3.out _ _ _⟩
    · have HD := Lib.hid hd
      have HX := Lib.hid (rx_bad hd)
      clear hd
      go_enter Tryz.func34, Tryz.ntmps34
      go_wp2_with fail
      generalize hW0 : w.alloc (.cells #[.int .i64 0, .int .i64 0, .int .i64 0] 25) = w0
      have X0 := Lib.hid (show Box w0 w.heap.size 0 0 0 by rw [← hW0]; exact Box.made _ _ _ _)
      have B0 := Lib.hid (show Below w.heap.size w w0 by rw [← hW0]; exact below_box _ _)
      clear hW0
      (with_reducible refine (implMin n 54 54 HMIN.out _).mono ?_)
      rintro e wm ⟨rfl, hb⟩
      have XM := Lib.hid (X0.out.below hb)
      have BM := Lib.hid (B0.out.trans (hb.mono B0.out.size))
      clear hb X0 B0
      go_wp2_with fail
      (with_reducible refine (implDec (zs.take 54) _ _ A1 54 cap _ (Rd.upto R1.out BM.out R1.out.hi_)).mono ?_)
      rintro e w1 hpost
      obtain ⟨rfl, hb⟩ := d_parts HD.out hpost
      have X1 := Lib.hid (XM.out.below hb)
      have B1 := Lib.hid (BM.out.trans (hb.mono BM.out.size))
      clear hb hpost XM BM
      obtain ⟨b5, hb5⟩ : ∃ b5, b5 = w1.heap.size := ⟨_, rfl⟩
      obtain ⟨w2, hW2⟩ : ∃ w2, w2 = w1.alloc (.cells #[.int .i64 0, .int .i64 0, .int .i64 0] 25) := ⟨_, rfl⟩
      have X2 := Lib.hid (show Box w2 w.heap.size 0 0 0 by rw [hW2]; exact X1.out.below (below_box _ _))
      have Y2 := Lib.hid (show Box w2 b5 0 0 0 by rw [hW2, hb5]; exact Box.made _ _ _ _)
      have B2 := Lib.hid (show Below w.heap.size w w2 by rw [hW2]; exact B1.out.alloc B1.out.size _)
      have S5 := Lib.hid (show w.heap.size < b5 by rw [hb5]; exact X1.out.lt)
      have S_w2 := Lib.hid X2.out.lt
      clear X1 B1
      have z0 := X2.out.c0
      have z1 := X2.out.c1
      have z2 := X2.out.c2
      have zf0 := X2.out.free 0
      have zf1 := X2.out.free 1
      have zf2 := X2.out.free 2
      rw [hW2] at z0 z1 z2 zf0 zf1 zf2
      go_wp2_with fail
      rw [← hW2]
      (try simp only [Exit.inBlock, Exit.then])
      refine bodyPost_ret (v := .tuple #[.agg #[.int .i64 0, .int .i64 0, .int .i64 0], .slice none 0 0, .iface 57 (.agg #[.int .i64 0, .int .i64 0, .int .i64 0, .int .i64 1])]) ?_ rfl ?_
      · rw [results_cell_tmp2 rfl]
        go_simp
      · exact Or.inr ⟨0, 0, 0, 1, HX.out, rfl, bel3 B2.out _ _ _⟩
end Go.Proofs.YtdelpepepbkjmaaGreatDoor.phs
end

section
namespace Go.Proofs.YtdelpepepbkjmaaGreatDoor.phs
open Go.RowKit sl harn rng phm asErr
set_option linter.unusedVariables false

theorem four_box (w : World) : Four (w.alloc (.cells #[.int .i64 0, .int .i64 0, .int .i64 0, .int .i64 0] 57)) w.heap.size 0 0 0 0 := heap_alloc_new w _
theorem rx_drew {t : (Int × Int × Int) × List Int × Int} {w W : World} {e : Ending} (h : RxPost t w e W) : RxPost t w e W.drew := by
  obtain ⟨A, m, c, h1, h2, h3⟩ := h
  exact ⟨A, m, c, h1, h2, own.below_drew h3⟩
theorem rx_late {t : (Int × Int × Int) × List Int × Int} {a b c q : Int} (ht : t = ((a, b, c), [], q)) {w W : World} (hw : w.heap.size < W.heap.size) (hb : Below w.heap.size w W) :
    RxPost t w (.returned (.tuple #[.agg #[.int .i64 a, .int .i64 b, .int .i64 c], .slice (some ⟨W.heap.size, 0, none⟩) 0 0, .int .i64 q]))
      ((((W.setCell ⟨w.heap.size, 0, none⟩ (.int .i64 a)).setCell ⟨w.heap.size, 1, none⟩ (.int .i64 b)).setCell ⟨w.heap.size, 2, none⟩ (.int .i64 c)).alloc (.cells #[] 5)) := by
  have hs : (((W.setCell ⟨w.heap.size, 0, none⟩ (.int .i64 a)).setCell ⟨w.heap.size, 1, none⟩ (.int .i64 b)).setCell ⟨w.heap.size, 2, none⟩ (.int .i64 c)).heap.size = W.heap.size := by simp [World.setCell]
  have hb := bel3 hb (.int .i64 a) (.int .i64 b) (.int .i64 c)
  generalize ((W.setCell ⟨w.heap.size, 0, none⟩ (.int .i64 a)).setCell ⟨w.heap.size, 1, none⟩ (.int .i64 b)).setCell ⟨w.heap.size, 2, none⟩ (.int .i64 c) = V at hs hb ⊢
  rw [← hs] at hw ⊢
  exact rx_plain ht (Ow.empty 5 .u8 V) (Nat.le_of_lt hw) (hb.alloc (Nat.le_of_lt hw) _)
set_option maxRecDepth 100000 in
set_option maxHeartbeats 8000000 in
theorem implRx (zs : List Int) (lo hi : Nat) (A : Option Addr) (n cap : Nat) (w : World) (hg : Handle w) (h : Rd .i64 w lo hi A n cap zs) (hn : n ≤ 33554432) :
    Calls Tryz.prog 11 #[.slice A n cap] w (RxPost (rx zs) w) := by
  have HR := Lib.hid h
  have HG := Lib.hid hg
  clear h hg
  go_enter Tryz.func11, Tryz.ntmps11
  go_wp2_with fail
  generalize hW0 : w.alloc (.cells #[.int .i64 0, .int .i64 0, .int .i64 0] 25) = w0
  have X0 := Lib.hid (show Box w0 w.heap.size 0 0 0 by rw [← hW0]; exact Box.made _ _ _ _)
  have B0 := Lib.hid (show Below w.heap.size w w0 by rw [← hW0]; exact below_box _ _)
  clear hW0
  (with_reducible refine (rcv zs _ _ A n cap _ (Rd.upto HR.out B0.out HR.out.hi_) hn).mono ?_)
  rintro e w1 (⟨a, b, c, p, A1, n1, c1, ht, rfl, ho, hb⟩ | ⟨a, b, c, q, ht, rfl, hb⟩)
  · have HT := Lib.hid ht
    have O1 := Lib.hid ho
    clear ho
    have S0 := Lib.hid X0.out.lt
    have X1 := Lib.hid (X0.out.below hb)
    have B1 := Lib.hid (B0.out.trans (hb.mono B0.out.size))
    clear hb ht X0 B0
    obtain ⟨b5, hb5⟩ : ∃ b5, b5 = w1.heap.size := ⟨_, rfl⟩
    obtain ⟨w2, hW2⟩ : ∃ w2, w2 = w1.alloc (.cells #[.int .i64 a, .int .i64 b, .int .i64 c] 25) := ⟨_, rfl⟩
    obtain ⟨b6, hb6⟩ : ∃ b6, b6 = w2.heap.size := ⟨_, rfl⟩
    obtain ⟨w3, hW3⟩ : ∃ w3, w3 = w2.alloc (.cells #[.int .i64 0, .int .i64 0, .int .i64 0, .int .i64 0] 57) := ⟨_, rfl⟩
    have X2 := Lib.hid (show Box w2 w.heap.size 0 0 0 by rw [hW2]; exact X1.out.below (below_box _ _))
    have Y2 := Lib.hid (show Box w2 b5 a b c by rw [hW2, hb5]; exact Box.made _ _ _ _)
    have B2 := Lib.hid (show Below w.heap.size w w2 by rw [hW2]; exact B1.out.alloc B1.out.size _)
    have X3 := Lib.hid (show Box w3 w.heap.size 0 0 0 by rw [hW3]; exact X2.out.below (below_box _ _))
    have Y3 := Lib.hid (show Box w3 b5 a b c by rw [hW3]; exact Y2.out.below (below_box _ _))
    have B3 := Lib.hid (show Below w.heap.size w w3 by rw [hW3]; exact B2.out.alloc B2.out.size _)
    have Z3 := Lib.hid (show Four w3 b6 0 0 0 0 by rw [hW3, hb6]; exact four_box _)
    have S5 := Lib.hid (show w.heap.size < b5 by rw [hb5]; exact X1.out.lt)
    have S6 := Lib.hid (show w.heap.size < b6 by rw [hb6]; exact X2.out.lt)
    have e6 := Lib.hid (show w1.heap.size + 1 = b6 by rw [hb6, hW2]; simp)
    have O3 := Lib.hid (show Ow 5 .u8 w3 w0.heap.size w1.heap.size A1 n1 c1 p by rw [hW3, hW2]; exact (O1.out.alloc _).alloc _)
    clear X1 B1
    go_wp2_with fail
    rw [← hW2, ← hW3, e6.out, ← hb5]
    clear hW2 hW3 hb5 hb6 e6
    (with_reducible refine (as_nil _ _).mono ?_)
    rintro e w4 ⟨rfl, rfl⟩
    have x0 := X3.out.c0
    have x1 := X3.out.c1
    have x2 := X3.out.c2
    have xf0 := X3.out.free 0
    have xf1 := X3.out.free 1
    have xf2 := X3.out.free 2
    have y0 := Y3.out.c0
    have y1 := Y3.out.c1
    have y2 := Y3.out.c2
    have nb1 : ¬ w.heap.size = b5 := by have := S5.out; omega
    have nb2 : ¬ b5 = w.heap.size := by have := S5.out; omega
    go_wp2_with fail
    (try simp only [Exit.inBlock, Exit.then])
    refine bodyPost_ret (v := .tuple #[.agg #[.int .i64 a, .int .i64 b, .int .i64 c], .slice A1 n1 c1, .int .i64 0]) ?_ rfl ?_
    · rw [results_cell_tmp2 rfl]
      go_simp
    · exact rx_end HT.out O3.out S0.out B3.out
  · have HT := Lib.hid ht
    have S0 := Lib.hid X0.out.lt
    have X1 := Lib.hid (X0.out.below hb)
    have B1 := Lib.hid (B0.out.trans (hb.mono B0.out.size))
    clear hb ht X0 B0
    obtain ⟨b5, hb5⟩ : ∃ b5, b5 = w1.heap.size := ⟨_, rfl⟩
    obtain ⟨w2, hW2⟩ : ∃ w2, w2 = w1.alloc (.cells #[.int .i64 0, .int .i64 0, .int .i64 0] 25) := ⟨_, rfl⟩
    obtain ⟨b6, hb6⟩ : ∃ b6, b6 = w2.heap.size := ⟨_, rfl⟩
    obtain ⟨w3, hW3⟩ : ∃ w3, w3 = w2.alloc (.cells #[.int .i64 0, .int .i64 0, .int .i64 0, .int .i64 0] 57) := ⟨_, rfl⟩
    have X2 := Lib.hid (show Box w2 w.heap.size 0 0 0 by rw [hW2]; exact X1.out.below (below_box _ _))
    have Y2 := Lib.hid (show Box w2 b5 0 0 0 by rw [hW2, hb5]; exact Box.made _ _ _ _)
    have B2 := Lib.hid (show Below w.heap.size w w2 by rw [hW2]; exact B1.out.alloc B1.out.size _)
    have X3 := Lib.hid (show Box w3 w.heap.size 0 0 0 by rw [hW3]; exact X2.out.below (below_box _ _))
    have Y3 := Lib.hid (show Box w3 b5 0 0 0 by rw [hW3]; exact Y2.out.below (below_box _ _))
    have B3 := Lib.hid (show Below w.heap.size w w3 by rw [hW3]; exact B2.out.alloc B2.out.size _)
    have Z3 := Lib.hid (show Four w3 b6 0 0 0 0 by rw [hW3, hb6]; exact four_box _)
    have S5 := Lib.hid (show w.heap.size < b5 by rw [hb5]; exact X1.out.lt)
    have S6 := Lib.hid (show w.heap.size < b6 by rw [hb6]; exact X2.out.lt)
    have e6 := Lib.hid (show w1.heap.size + 1 = b6 by rw [hb6, hW2]; simp)
    clear X1 B1
    go_wp2_with fail
    rw [← hW2, ← hW3, e6.out, ← hb5]
    clear hW2 hW3 hb5 hb6 e6
    (with_reducible refine (as_hit a b c q 0 0 0 0 b6 _ (HG.out.below B3.out) Z3.out).mono ?_)
    rintro e w4 ⟨rfl, h4, hb⟩
    have X4 := Lib.hid (X3.out.up hb S6.out)
    have B4 := Lib.hid (B3.out.trans (hb.mono (Nat.le_of_lt S6.out)))
    have x0 := X4.out.c0
    have x1 := X4.out.c1
    have x2 := X4.out.c2
    have xf0 := X4.out.free 0
    have xf1 := X4.out.free 1
    have xf2 := X4.out.free 2
    have h40 : w4.cell? ⟨b6, 0, none⟩ = some (.int .i64 a) := by unfold Four at h4; simp [World.cell?, h4]
    have h41 : w4.cell? ⟨b6, 1, none⟩ = some (.int .i64 b) := by unfold Four at h4; simp [World.cell?, h4]
    have h42 : w4.cell? ⟨b6, 2, none⟩ = some (.int .i64 c) := by unfold Four at h4; simp [World.cell?, h4]
    have h43 : w4.cell? ⟨b6, 3, none⟩ = some (.int .i64 q) := by unfold Four at h4; simp [World.cell?, h4]
    have nb1 : ¬ w.heap.size = b6 := by have := S6.out; omega
    have nb2 : ¬ b6 = w.heap.size := by have := S6.out; omega
    have XE := Lib.hid (X4.out.below (below_box w4 (.cells #[] 5)))
    have e4 : Four (w4.alloc (.cells #[] 5)) b6 a b c q := h4.below (below_box _ _)
    have e40 : (w4.alloc (.cells #[] 5)).cell? ⟨b6, 0, none⟩ = some (.int .i64 a) := by unfold Four at e4; simp only [World.cell?, e4]; simp
    have e41 : (w4.alloc (.cells #[] 5)).cell? ⟨b6, 1, none⟩ = some (.int .i64 b) := by unfold Four at e4; simp only [World.cell?, e4]; simp
    have e42 : (w4.alloc (.cells #[] 5)).cell? ⟨b6, 2, none⟩ = some (.int .i64 c) := by unfold Four at e4; simp only [World.cell?, e4]; simp
    have e43 : (w4.alloc (.cells #[] 5)).cell? ⟨b6, 3, none⟩ = some (.int .i64 q) := by unfold Four at e4; simp only [World.cell?, e4]; simp
    have z0 := XE.out.c0
    have z1 := XE.out.c1
    have z2 := XE.out.c2
    have zf0 := XE.out.free 0
    have zf1 := XE.out.free 1
    have zf2 := XE.out.free 2
    have f43 : ((((w4.setCell ⟨w.heap.size, 0, none⟩ (.int .i64 a)).setCell ⟨w.heap.size, 1, none⟩ (.int .i64 b)).setCell ⟨w.heap.size, 2, none⟩ (.int .i64 c)).alloc (.cells #[] 5)).cell? ⟨b6, 3, none⟩ = some (.int .i64 q) := by
      rw [World.cell?_alloc_lt _ _ ⟨b6, 3, none⟩ (by simpa [World.setCell] using lt_of_block h4)]
      go_simp
    have g40 : ((((w4.setCell ⟨w.heap.size, 0, none⟩ (.int .i64 a)).setCell ⟨w.heap.size, 1, none⟩ (.int .i64 b)).setCell ⟨w.heap.size, 2, none⟩ (.int .i64 c)).alloc (.cells #[] 5)).cell? ⟨w.heap.size, 0, none⟩ = some (.int .i64 a) := by
      rw [World.cell?_alloc_lt _ _ ⟨w.heap.size, 0, none⟩ (by simpa [World.setCell] using X4.out.lt)]
      go_simp
    have g41 : ((((w4.setCell ⟨w.heap.size, 0, none⟩ (.int .i64 a)).setCell ⟨w.heap.size, 1, none⟩ (.int .i64 b)).setCell ⟨w.heap.size, 2, none⟩ (.int .i64 c)).alloc (.cells #[] 5)).cell? ⟨w.heap.size, 1, none⟩ = some (.int .i64 b) := by
      rw [World.cell?_alloc_lt _ _ ⟨w.heap.size, 1, none⟩ (by simpa [World.setCell] using X4.out.lt)]
      go_simp
    have g42 : ((((w4.setCell ⟨w.heap.size, 0, none⟩ (.int .i64 a)).setCell ⟨w.heap.size, 1, none⟩ (.int .i64 b)).setCell ⟨w.heap.size, 2, none⟩ (.int .i64 c)).alloc (.cells #[] 5)).cell? ⟨w.heap.size, 2, none⟩ = some (.int .i64 c) := by
      rw [World.cell?_alloc_lt _ _ ⟨w.heap.size, 2, none⟩ (by simpa [World.setCell] using X4.out.lt)]
      go_simp
    clear h4 hb e4
    go_wp2_with fail
    go_region
    all_goals (go_wp2_with fail)
    all_goals (try simp only [Exit.inBlock, Exit.then])
    all_goals (refine bodyPost_ret (v := .tuple #[.agg #[.int .i64 a, .int .i64 b, .int .i64 c], .slice (some ⟨w4.heap.size, 0, none⟩) 0 0, .int .i64 q]) ?_ rfl ?_)
    all_goals first
      | (rw [results_cell_tmp2 rfl]; go_simp; done)
      | exact rx_drew (rx_end HT.out (Ow.empty 5 .u8 w4) X4.out.lt (B4.out.alloc B4.out.size _))
      | exact rx_drew (rx_late HT.out X4.out.lt B4.out)
end Go.Proofs.YtdelpepepbkjmaaGreatDoor.phs
end

section
namespace Go.Proofs.YtdelpepepbkjmaaGreatDoor.xExactReceiveFrame
open Go.RowKit sl harn
set_option linter.unusedVariables false
set_option maxRecDepth 100000 in
set_option maxHeartbeats 4000000 in
theorem walk (a0 : Option Addr) (len0 cap0 : Nat) (z0 : List Int) (w : World) (r0 : kit.IsRow .i64 w a0 len0 cap0 z0) (hg : asErr.Handle w) :
    Calls Tryz.prog 5 #[.slice a0 len0 cap0] w fun e w' => e = .returned (.bool true) ∧ Below w.heap.size w w' := by
  obtain ⟨y0, hr0⟩ := Rd.of_row r0
  have R0 := Lib.hid hr0
  have hl0 : (len0 : Int) ≤ 9223372036854775807 := by have := hr0.cap_; omega
  clear r0 hr0
  by_cases hbig0 : 1048576 < (len0 : Int)
  · go_enter Tryz.func5, Tryz.ntmps5
    go_wp2
    go_ret
    exact ⟨rfl, Below.refl _ _⟩
  have LY0 : Hid (y0.length ≤ 1048576) := by have := R0.out.len; unfold Hid; omega
  have HG := Lib.hid hg
  clear hg
  obtain ⟨t10a, t10b, t10c, t10l, t10z, ht⟩ : ∃ x0 x1 x2 l b, phm.rx y0 = ((x0, x1, x2), l, b) := ⟨_, _, _, _, _, rfl⟩
  have t10h := Lib.hid ht
  clear ht
  have B0 := Lib.hid (Below.refl w.heap.size w)
  go_enter Tryz.func5, Tryz.ntmps5
  go_wp2_with fail
  (with_reducible refine (harn.toIntS y0 _ _ a0 len0 cap0 _ R0.out (by have l1 := R0.out.len; have q0 := LY0.out; omega)).mono ?_)
  rintro e w1 ⟨A2, m3, c4, rfl, ho, hb⟩
  have F5 := Lib.hid ho
  clear ho
  have S6 := Lib.hid (hb.size)
  have B7 := Lib.hid (B0.out.trans (hb.mono B0.out.size))
  have F8 := Lib.hid (R0.out.below hb)
  clear R0
  clear hb B0
  go_wp2_with fail
  (with_reducible refine (phs.specRx y0 _ _ A2 m3 c4 _ F5.out.rd (by have l1 := F5.out.len; have q0 := LY0.out; omega)).mono ?_)
  rintro e w9 hpost
  obtain ⟨A11, m12, c13, rfl, ho, hb⟩ := phs.rx_parts t10h.out hpost
  have F14 := Lib.hid ho
  clear ho
  have S15 := Lib.hid (hb.size)
  have B16 := Lib.hid (B7.out.trans (hb.mono B7.out.size))
  have F17 := Lib.hid (F8.out.below hb)
  clear F8
  have F18 := Lib.hid (F5.out.below hb)
  clear F5
  clear hb B7
  obtain ⟨V19, hV19⟩ : ∃ x, x = w9.alloc (.cells #[.int .i64 t10a, .int .i64 t10b, .int .i64 t10c] 25) := ⟨_, rfl⟩
  have hbV19 : Below w9.heap.size w9 V19 := by rw [hV19]; exact phs.below_box _ _
  have S20 := Lib.hid (show w9.heap.size + 1 ≤ V19.heap.size by rw [hV19]; simp)
  have B21 := Lib.hid (B16.out.trans (hbV19.mono B16.out.size))
  have F22 := Lib.hid (F17.out.below hbV19)
  clear F17
  have F23 := Lib.hid (F18.out.below hbV19)
  clear F18
  have F24 := Lib.hid (F14.out.below hbV19)
  clear F14
  have X25 := Lib.hid (show phs.Box V19 w9.heap.size t10a t10b t10c by rw [hV19]; exact phs.Box.made _ _ _ _)
  clear hbV19 B16
  go_wp2_with fail
  rw [← hV19]
  clear hV19 
  (with_reducible refine (harn.toIntS y0 _ _ a0 len0 cap0 _ F22.out (by have l1 := F22.out.len; have q0 := LY0.out; omega)).mono ?_)
  rintro e w26 ⟨A27, m28, c29, rfl, ho, hb⟩
  have F30 := Lib.hid ho
  clear ho
  have S31 := Lib.hid (hb.size)
  have B32 := Lib.hid (B21.out.trans (hb.mono B21.out.size))
  have F33 := Lib.hid (F22.out.below hb)
  clear F22
  have X34 := Lib.hid (X25.out.below hb)
  clear X25
  have F35 := Lib.hid (F24.out.below hb)
  clear F24
  clear hb B21
  go_wp2_with fail
  (with_reducible refine (phs.implRx y0 _ _ A27 m28 c29 _ (HG.out.below B32.out) F30.out.rd (by have l1 := F30.out.len; have q0 := LY0.out; omega)).mono ?_)
  rintro e w36 hpost
  obtain ⟨A37, m38, c39, rfl, ho, hb⟩ := phs.rx_parts t10h.out hpost
  have F40 := Lib.hid ho
  clear ho
  have S41 := Lib.hid (hb.size)
  have B42 := Lib.hid (B32.out.trans (hb.mono B32.out.size))
  have F43 := Lib.hid (F33.out.below hb)
  clear F33
  have X44 := Lib.hid (X34.out.below hb)
  clear X34
  have F45 := Lib.hid (F35.out.below hb)
  clear F35
  have F46 := Lib.hid (F30.out.below hb)
  clear F30
  clear hb B32
  obtain ⟨V47, hV47⟩ : ∃ x, x = w36.alloc (.cells #[.int .i64 t10a, .int .i64 t10b, .int .i64 t10c] 25) := ⟨_, rfl⟩
  have hbV47 : Below w36.heap.size w36 V47 := by rw [hV47]; exact phs.below_box _ _
  have S48 := Lib.hid (show w36.heap.size + 1 ≤ V47.heap.size by rw [hV47]; simp)
  have B49 := Lib.hid (B42.out.trans (hbV47.mono B42.out.size))
  have F50 := Lib.hid (F43.out.below hbV47)
  clear F43
  have X51 := Lib.hid (X44.out.below hbV47)
  clear X44
  have F52 := Lib.hid (F45.out.below hbV47)
  clear F45
  have F53 := Lib.hid (F46.out.below hbV47)
  clear F46
  have F54 := Lib.hid (F40.out.below hbV47)
  clear F40
  have X55 := Lib.hid (show phs.Box V47 w36.heap.size t10a t10b t10c by rw [hV47]; exact phs.Box.made _ _ _ _)
  clear hbV47 B42
  have cc0 : (w36.alloc (.cells #[.int .i64 t10a, .int .i64 t10b, .int .i64 t10c] 25)).cell? ⟨w9.heap.size, 0, none⟩ = some (.int .i64 t10a) := by rw [← hV47]; exact X51.out.c0
  have cc1 : (w36.alloc (.cells #[.int .i64 t10a, .int .i64 t10b, .int .i64 t10c] 25)).cell? ⟨w9.heap.size, 1, none⟩ = some (.int .i64 t10b) := by rw [← hV47]; exact X51.out.c1
  have cc2 : (w36.alloc (.cells #[.int .i64 t10a, .int .i64 t10b, .int .i64 t10c] 25)).cell? ⟨w9.heap.size, 2, none⟩ = some (.int .i64 t10c) := by rw [← hV47]; exact X51.out.c2
  go_wp2_with fail
  rw [← hV47]
  clear hV47 cc0 cc1 cc2
  (with_reducible refine (phs.eqHdr_yes t10a t10b t10c _).mono ?_)
  rintro e w56 ⟨rfl, hb⟩
  have S57 := Lib.hid (hb.size)
  have B58 := Lib.hid (B49.out.trans (hb.mono B49.out.size))
  have F59 := Lib.hid (F50.out.below hb)
  clear F50
  have X60 := Lib.hid (X51.out.below hb)
  clear X51
  have F61 := Lib.hid (F52.out.below hb)
  clear F52
  have F62 := Lib.hid (F53.out.below hb)
  clear F53
  have X63 := Lib.hid (X55.out.below hb)
  clear X55
  have F64 := Lib.hid (F54.out.below hb)
  clear F54
  clear hb B49
  go_wp2_with fail
  (with_reducible refine (harn.eqByteS_yes t10l _ _ _ _ A37 A11 m38 c39 m12 c13 _ F64.out.rd F61.out.rd).mono ?_)
  rintro e w65 ⟨rfl, hb⟩
  have S66 := Lib.hid (hb.size)
  have B67 := Lib.hid (B58.out.trans (hb.mono B58.out.size))
  have F68 := Lib.hid (F59.out.below hb)
  clear F59
  have X69 := Lib.hid (X60.out.below hb)
  clear X60
  have F70 := Lib.hid (F61.out.below hb)
  clear F61
  have F71 := Lib.hid (F62.out.below hb)
  clear F62
  have X72 := Lib.hid (X63.out.below hb)
  clear X63
  have F73 := Lib.hid (F64.out.below hb)
  clear F64
  clear hb B58
  go_wp2_with fail
  (with_reducible refine (harn.toIntS y0 _ _ a0 len0 cap0 _ F68.out (by have l1 := F68.out.len; have q0 := LY0.out; omega)).mono ?_)
  rintro e w74 ⟨A75, m76, c77, rfl, ho, hb⟩
  have F78 := Lib.hid ho
  clear ho
  have S79 := Lib.hid (hb.size)
  have B80 := Lib.hid (B67.out.trans (hb.mono B67.out.size))
  have F81 := Lib.hid (F68.out.below hb)
  clear F68
  have X82 := Lib.hid (X69.out.below hb)
  clear X69
  have F83 := Lib.hid (F70.out.below hb)
  clear F70
  have F84 := Lib.hid (F71.out.below hb)
  clear F71
  have X85 := Lib.hid (X72.out.below hb)
  clear X72
  have F86 := Lib.hid (F73.out.below hb)
  clear F73
  clear hb B67
  go_wp2_with fail
  (with_reducible refine (harn.eqIntS_yes y0 _ _ _ _ A27 A75 m28 c29 m76 c77 _ F84.out.rd F78.out.rd).mono ?_)
  rintro e w87 ⟨rfl, hb⟩
  have S88 := Lib.hid (hb.size)
  have B89 := Lib.hid (B80.out.trans (hb.mono B80.out.size))
  have F90 := Lib.hid (F81.out.below hb)
  clear F81
  have X91 := Lib.hid (X82.out.below hb)
  clear X82
  have F92 := Lib.hid (F83.out.below hb)
  clear F83
  have F93 := Lib.hid (F84.out.below hb)
  clear F84
  have X94 := Lib.hid (X85.out.below hb)
  clear X85
  have F95 := Lib.hid (F86.out.below hb)
  clear F86
  have F96 := Lib.hid (F78.out.below hb)
  clear F78
  clear hb B80
  go_wp2_with fail
  (with_reducible refine (harn.markIntS y0 _ _ A27 m28 c29 1 _ F93.out (by omega) (by  omega) (by have l1 := F93.out.len; have q0 := LY0.out; omega)).mono ?_)
  rintro e w97 ⟨rfl, ho, hb⟩
  have N99 := Lib.hid (show m28 ≤ 67108864 from (by have l1 := F93.out.len; have q0 := LY0.out; omega))
  have F98 := Lib.hid ho
  clear ho
  have S100 := Lib.hid (hb.size)
  have B101 := Lib.hid (B89.out.trans (hb.below (by have s0 := S6.out; have s1 := S15.out; have s2 := S20.out; have s3 := S31.out; have s4 := S41.out; have s5 := S48.out; have s6 := S57.out; have s7 := S66.out; have s8 := S79.out; have s9 := S88.out; omega) B89.out.size))
  have F102 := Lib.hid (F90.out.tch hb (by have s0 := S6.out; have s1 := S15.out; have s2 := S20.out; have s3 := S31.out; have s4 := S41.out; have s5 := S48.out; have s6 := S57.out; have s7 := S66.out; have s8 := S79.out; have s9 := S88.out; have s10 := S100.out; omega))
  clear F90
  have X103 := Lib.hid (X91.out.tch hb (by have s0 := S6.out; have s1 := S15.out; have s2 := S20.out; have s3 := S31.out; have s4 := S41.out; have s5 := S48.out; have s6 := S57.out; have s7 := S66.out; have s8 := S79.out; have s9 := S88.out; have s10 := S100.out; omega))
  clear X91
  have F104 := Lib.hid (F92.out.tch hb (by have s0 := S6.out; have s1 := S15.out; have s2 := S20.out; have s3 := S31.out; have s4 := S41.out; have s5 := S48.out; have s6 := S57.out; have s7 := S66.out; have s8 := S79.out; have s9 := S88.out; have s10 := S100.out; omega))
  clear F92
  have X105 := Lib.hid (X94.out.tch hb (by have s0 := S6.out; have s1 := S15.out; have s2 := S20.out; have s3 := S31.out; have s4 := S41.out; have s5 := S48.out; have s6 := S57.out; have s7 := S66.out; have s8 := S79.out; have s9 := S88.out; have s10 := S100.out; omega))
  clear X94
  have F106 := Lib.hid (F95.out.tch hb (by have s0 := S6.out; have s1 := S15.out; have s2 := S20.out; have s3 := S31.out; have s4 := S41.out; have s5 := S48.out; have s6 := S57.out; have s7 := S66.out; have s8 := S79.out; have s9 := S88.out; have s10 := S100.out; omega))
  clear F95
  clear hb B89
  clear F93
  have cc0 := X105.out.c0
  have cc1 := X105.out.c1
  have cc2 := X105.out.c2
  have cc3 := X103.out.c0
  have cc4 := X103.out.c1
  have cc5 := X103.out.c2
  go_wp2_with fail
  clear cc0 cc1 cc2 cc3 cc4 cc5
  (with_reducible refine (phs.eqHdr_yes t10a t10b t10c _).mono ?_)
  rintro e w107 ⟨rfl, hb⟩
  have S108 := Lib.hid (hb.size)
  have B109 := Lib.hid (B101.out.trans (hb.mono B101.out.size))
  have F110 := Lib.hid (F102.out.below hb)
  clear F102
  have X111 := Lib.hid (X103.out.below hb)
  clear X103
  have F112 := Lib.hid (F104.out.below hb)
  clear F104
  have X113 := Lib.hid (X105.out.below hb)
  clear X105
  have F114 := Lib.hid (F106.out.below hb)
  clear F106
  clear hb B101
  go_wp2_with fail
  (with_reducible refine (harn.eqByteS_yes t10l _ _ _ _ A37 A11 m38 c39 m12 c13 _ F114.out.rd F112.out.rd).mono ?_)
  rintro e w115 ⟨rfl, hb⟩
  have S116 := Lib.hid (hb.size)
  have B117 := Lib.hid (B109.out.trans (hb.mono B109.out.size))
  have F118 := Lib.hid (F110.out.below hb)
  clear F110
  have X119 := Lib.hid (X111.out.below hb)
  clear X111
  have F120 := Lib.hid (F112.out.below hb)
  clear F112
  have X121 := Lib.hid (X113.out.below hb)
  clear X113
  have F122 := Lib.hid (F114.out.below hb)
  clear F114
  clear hb B109
  go_wp2_with fail
  (with_reducible refine (harn.markByteS t10l _ _ A37 m38 c39 1 _ F122.out (by omega) (by have n0 := N99.out; omega) (by have l1 := F122.out.len; have u1 : t10l.length ≤ 4000 + (y0).length := (by have u2 := phm.rx_le y0; rw [t10h.out] at u2; exact u2); have q0 := LY0.out; omega)).mono ?_)
  rintro e w123 ⟨rfl, ho, hb⟩
  have N125 := Lib.hid (show m38 ≤ 67108864 from (by have l1 := F122.out.len; have u1 : t10l.length ≤ 4000 + (y0).length := (by have u2 := phm.rx_le y0; rw [t10h.out] at u2; exact u2); have q0 := LY0.out; omega))
  have F124 := Lib.hid ho
  clear ho
  have S126 := Lib.hid (hb.size)
  have B127 := Lib.hid (B117.out.trans (hb.below (by have s0 := S6.out; have s1 := S15.out; have s2 := S20.out; have s3 := S31.out; have s4 := S41.out; have s5 := S48.out; have s6 := S57.out; have s7 := S66.out; have s8 := S79.out; have s9 := S88.out; have s10 := S100.out; have s11 := S108.out; have s12 := S116.out; omega) B117.out.size))
  have F128 := Lib.hid (F118.out.tch hb (by have s0 := S6.out; have s1 := S15.out; have s2 := S20.out; have s3 := S31.out; have s4 := S41.out; have s5 := S48.out; have s6 := S57.out; have s7 := S66.out; have s8 := S79.out; have s9 := S88.out; have s10 := S100.out; have s11 := S108.out; have s12 := S116.out; have s13 := S126.out; omega))
  clear F118
  have X129 := Lib.hid (X119.out.tch hb (by have s0 := S6.out; have s1 := S15.out; have s2 := S20.out; have s3 := S31.out; have s4 := S41.out; have s5 := S48.out; have s6 := S57.out; have s7 := S66.out; have s8 := S79.out; have s9 := S88.out; have s10 := S100.out; have s11 := S108.out; have s12 := S116.out; have s13 := S126.out; omega))
  clear X119
  have F130 := Lib.hid (F120.out.tch hb (by have s0 := S6.out; have s1 := S15.out; have s2 := S20.out; have s3 := S31.out; have s4 := S41.out; have s5 := S48.out; have s6 := S57.out; have s7 := S66.out; have s8 := S79.out; have s9 := S88.out; have s10 := S100.out; have s11 := S108.out; have s12 := S116.out; have s13 := S126.out; omega))
  clear F120
  clear hb B117
  clear F122
  go_wp2_with fail
  (with_reducible refine (harn.heldByteS _ _ A37 m38 c39 1 _ F124.out.rd (by omega) (by have n0 := N99.out; have n1 := N125.out; omega) N125.out).mono ?_)
  rintro e w131 ⟨rfl, rfl⟩
  go_wp2_with fail
  (with_reducible refine (harn.toIntS y0 _ _ a0 len0 cap0 _ F128.out (by have l1 := F128.out.len; have q0 := LY0.out; omega)).mono ?_)
  rintro e w132 ⟨A133, m134, c135, rfl, ho, hb⟩
  have F136 := Lib.hid ho
  clear ho
  have S137 := Lib.hid (hb.size)
  have B138 := Lib.hid (B127.out.trans (hb.mono B127.out.size))
  have F139 := Lib.hid (F128.out.below hb)
  clear F128
  have X140 := Lib.hid (X129.out.below hb)
  clear X129
  have F141 := Lib.hid (F130.out.below hb)
  clear F130
  have F142 := Lib.hid (F124.out.below hb)
  clear F124
  clear hb B127
  go_wp2_with fail
  (with_reducible refine (phs.implRx y0 _ _ A133 m134 c135 _ (HG.out.below B138.out) F136.out.rd (by have l1 := F136.out.len; have q0 := LY0.out; omega)).mono ?_)
  rintro e w143 hpost
  obtain ⟨A144, m145, c146, rfl, ho, hb⟩ := phs.rx_parts t10h.out hpost
  have F147 := Lib.hid ho
  clear ho
  have S148 := Lib.hid (hb.size)
  have B149 := Lib.hid (B138.out.trans (hb.mono B138.out.size))
  have F150 := Lib.hid (F139.out.below hb)
  clear F139
  have X151 := Lib.hid (X140.out.below hb)
  clear X140
  have F152 := Lib.hid (F141.out.below hb)
  clear F141
  have F153 := Lib.hid (F142.out.below hb)
  clear F142
  have F154 := Lib.hid (F136.out.below hb)
  clear F136
  clear hb B138
  obtain ⟨V155, hV155⟩ : ∃ x, x = w143.alloc (.cells #[.int .i64 t10a, .int .i64 t10b, .int .i64 t10c] 25) := ⟨_, rfl⟩
  have hbV155 : Below w143.heap.size w143 V155 := by rw [hV155]; exact phs.below_box _ _
  have S156 := Lib.hid (show w143.heap.size + 1 ≤ V155.heap.size by rw [hV155]; simp)
  have B157 := Lib.hid (B149.out.trans (hbV155.mono B149.out.size))
  have F158 := Lib.hid (F150.out.below hbV155)
  clear F150
  have X159 := Lib.hid (X151.out.below hbV155)
  clear X151
  have F160 := Lib.hid (F152.out.below hbV155)
  clear F152
  have F161 := Lib.hid (F153.out.below hbV155)
  clear F153
  have F162 := Lib.hid (F154.out.below hbV155)
  clear F154
  have F163 := Lib.hid (F147.out.below hbV155)
  clear F147
  have X164 := Lib.hid (show phs.Box V155 w143.heap.size t10a t10b t10c by rw [hV155]; exact phs.Box.made _ _ _ _)
  clear hbV155 B149
  have cc0 : (w143.alloc (.cells #[.int .i64 t10a, .int .i64 t10b, .int .i64 t10c] 25)).cell? ⟨w9.heap.size, 0, none⟩ = some (.int .i64 t10a) := by rw [← hV155]; exact X159.out.c0
  have cc1 : (w143.alloc (.cells #[.int .i64 t10a, .int .i64 t10b, .int .i64 t10c] 25)).cell? ⟨w9.heap.size, 1, none⟩ = some (.int .i64 t10b) := by rw [← hV155]; exact X159.out.c1
  have cc2 : (w143.alloc (.cells #[.int .i64 t10a, .int .i64 t10b, .int .i64 t10c] 25)).cell? ⟨w9.heap.size, 2, none⟩ = some (.int .i64 t10c) := by rw [← hV155]; exact X159.out.c2
  go_wp2_with fail
  rw [← hV155]
  clear hV155 cc0 cc1 cc2
  (with_reducible refine (phs.eqHdr_yes t10a t10b t10c _).mono ?_)
  rintro e w165 ⟨rfl, hb⟩
  have S166 := Lib.hid (hb.size)
  have B167 := Lib.hid (B157.out.trans (hb.mono B157.out.size))
  have X168 := Lib.hid (X159.out.below hb)
  clear X159
  have F169 := Lib.hid (F160.out.below hb)
  clear F160
  have F170 := Lib.hid (F161.out.below hb)
  clear F161
  have X171 := Lib.hid (X164.out.below hb)
  clear X164
  have F172 := Lib.hid (F163.out.below hb)
  clear F163
  clear hb B157
  go_wp2_with fail
  (with_reducible refine (harn.eqByteS_yes t10l _ _ _ _ A144 A11 m145 c146 m12 c13 _ F172.out.rd F169.out.rd).mono ?_)
  rintro e w173 ⟨rfl, hb⟩
  have S174 := Lib.hid (hb.size)
  have B175 := Lib.hid (B167.out.trans (hb.mono B167.out.size))
  have X176 := Lib.hid (X168.out.below hb)
  clear X168
  have F177 := Lib.hid (F169.out.below hb)
  clear F169
  have F178 := Lib.hid (F170.out.below hb)
  clear F170
  have X179 := Lib.hid (X171.out.below hb)
  clear X171
  have F180 := Lib.hid (F172.out.below hb)
  clear F172
  clear hb B167
  go_wp2_with fail
  (with_reducible refine (harn.heldByteS _ _ A37 m38 c39 1 _ F178.out.rd (by omega) (by have n0 := N99.out; have n1 := N125.out; omega) N125.out).mono ?_)
  rintro e w181 ⟨rfl, rfl⟩
  go_wp2_with fail
  go_ret
  exact ⟨rfl, B175.out⟩
end Go.Proofs.YtdelpepepbkjmaaGreatDoor.xExactReceiveFrame
end
