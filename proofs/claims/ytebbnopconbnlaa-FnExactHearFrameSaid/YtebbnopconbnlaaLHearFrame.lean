/- The law function of FnExactHearFrame returns true and leaves what was there. Condition: the slices among the arguments are slices that came in. -/
import Derived.Test.YtebbnopconbnlaaRsh
import Derived.Test.YtebbnopconbnlaaRs2
import Derived.Test.YtebbnopconbnlaaFhr
import Derived.Test.YtebbnopconbnlaaRwv
namespace Go.Proofs.Ytebbnopconbnlaa.xExactHearFrame
open Go.RowKit sl harn bx stw
set_option linter.unusedVariables false
set_option linter.unusedSimpArgs false

theorem szL : (Try.prog.info? 39).map (·.size) = some 3 := by kernel_rfl
theorem szLM : (Try.prog.info? 43).map (·.size) = some 9 := by kernel_rfl
set_option maxRecDepth 100000 in
set_option maxHeartbeats 4000000 in
theorem walk (n0_0 n0_1 n0_2 p k f t s g : Int) (m r : Bool) (d : Int) (A : Option Addr) (len cap : Nat) (zs : List Int) (q : Int) (w : World) (r0 : kit.IsRow .u8 w A len cap zs) :
    Calls Try.prog 6 #[.agg #[.int .i64 n0_0, .int .i64 n0_1, .int .i64 n0_2], .int .i64 p, .agg #[.int .i64 k, .int .i64 f, .int .i64 t, .int .i64 s, .int .i64 g, .bool m, .bool r, .int .i64 d, .slice A len cap], .int .i64 q] w (fun e w' => e = .returned (.bool true) ∧ Below w.heap.size w w') := by
  obtain ⟨y, hr0⟩ := Rd.of_row r0
  have RW := Lib.hid hr0
  have hl0 : (len : Int) ≤ 9223372036854775807 := by have := hr0.cap_; omega
  have HY := Lib.hid (show y.length = len from hr0.len)
  obtain ⟨⟨x0, x1, x2⟩, hx⟩ : ∃ x, rsm.hea ⟨n0_0, n0_1, n0_2⟩ p (⟨k, f, t, s, g, m, r, d, y⟩ : frm.Fm) q = x := ⟨_, rfl⟩
  have HX := Lib.hid hx
  clear hx r0 hr0
  go_enter Try.func6, Try.ntmps6
  go_wp2_with fail
  obtain ⟨w0, hW⟩ : ∃ w0, (w.alloc (.cells #[.int .i64 n0_0, .int .i64 n0_1, .int .i64 n0_2] 39)).alloc (.cells #[.int .i64 k, .int .i64 f, .int .i64 t, .int .i64 s, .int .i64 g, .bool m, .bool r, .int .i64 d, .slice A len cap] 43) = w0 := ⟨_, rfl⟩
  rw [hW]
  have B0 := Lib.hid (show Below w.heap.size w w0 by rw [← hW]; exact ((Below.refl _ _).alloc (by simp <;> omega) _).alloc (by simp <;> omega) _)
  have X0 := Lib.hid (show Bx 39 w0 (w.heap.size) #[.int .i64 n0_0, .int .i64 n0_1, .int .i64 n0_2] by
      rw [← hW]
      have hh := Bx.made 39 w #[.int .i64 n0_0, .int .i64 n0_1, .int .i64 n0_2]
      exact (hh.below (below_box _ _)))
  have F0 := Lib.hid (show Bx 43 w0 (w.heap.size + 1) #[.int .i64 k, .int .i64 f, .int .i64 t, .int .i64 s, .int .i64 g, .bool m, .bool r, .int .i64 d, .slice A len cap] by
      rw [← hW]
      have hh : Bx 43 ((w.alloc (.cells #[.int .i64 n0_0, .int .i64 n0_1, .int .i64 n0_2] 39)).alloc (.cells #[.int .i64 k, .int .i64 f, .int .i64 t, .int .i64 s, .int .i64 g, .bool m, .bool r, .int .i64 d, .slice A len cap] 43)) (w.heap.size + 1) #[.int .i64 k, .int .i64 f, .int .i64 t, .int .i64 s, .int .i64 g, .bool m, .bool r, .int .i64 d, .slice A len cap] := by have hh := Bx.made 43 (w.alloc (.cells #[.int .i64 n0_0, .int .i64 n0_1, .int .i64 n0_2] 39)) #[.int .i64 k, .int .i64 f, .int .i64 t, .int .i64 s, .int .i64 g, .bool m, .bool r, .int .i64 d, .slice A len cap]; simpa using hh
      exact hh)
  have R0 := Lib.hid (show Rd .u8 w0 (0) (w.heap.size) A len cap y by rw [← hW]; exact ((RW.out.below (below_box _ _)).below (below_box _ _)))
  clear hW
  go_wp2_with (refine stw.list_load rfl 43 _ rfl (w.heap.size + 1) rfl 43 _ F0.out Try.underlying43 rfl szLM ?_)
  by_cases hbig : 1048576 < (len : Int)
  · (with_reducible refine (fbx.sz_out k f t s g m r d A len cap 1048576 (by omega) hl0 (by omega) _).mono ?_)
    rintro e w1 hp
    obtain ⟨rfl, hb⟩ := fbx.n_parts rfl hp
    clear hp
    have B1 := Lib.hid (B0.out.trans (hb.mono B0.out.size))
    have X1 := Lib.hid (X0.out.below hb)
    have F1 := Lib.hid (F0.out.below hb)
    have R1 := Lib.hid (R0.out.below hb)
    clear hb  B0 X0 F0 R0
    go_wp2_with fail
    go_ret
    exact ⟨rfl, B1.out⟩
  · (with_reducible refine (fbx.sz_in k f t s g m r d A len cap 1048576 (by omega) hl0 (by omega) _).mono ?_)
    rintro e w1 hp
    obtain ⟨rfl, hb⟩ := fbx.n_parts rfl hp
    clear hp
    have B1 := Lib.hid (B0.out.trans (hb.mono B0.out.size))
    have X1 := Lib.hid (X0.out.below hb)
    have F1 := Lib.hid (F0.out.below hb)
    have R1 := Lib.hid (R0.out.below hb)
    clear hb  B0 X0 F0 R0
    have hq0 : ¬ 1048576 - (len : Int) < 0 := by omega
    have HN := Lib.hid (show len ≤ 67108864 by omega)
    go_wp2_with fail
    clear hq0 hbig
    refine reg.region_tail reg.Bel 8 42 [some [], some [(0, 18)], some [], some [], some [(3, 21)], some [], some [(1, 19), (2, 20), (4, 22), (5, 23)], some [], none] [(0, 18), (1, 19), (2, 20), (3, 21), (4, 22), (5, 23), (6, 24), (7, 10)]
      (fun w' => Below w.heap.size w w' ∧ Bx 39 w' (w.heap.size) #[.int .i64 n0_0, .int .i64 n0_1, .int .i64 n0_2] ∧ Bx 43 w' (w.heap.size + 1) #[.int .i64 k, .int .i64 f, .int .i64 t, .int .i64 s, .int .i64 g, .bool m, .bool r, .int .i64 d, .slice A len cap] ∧ Rd .u8 w' (0) (w.heap.size) A len cap y ∧ True)
      (reg.rl [reg.is (.agg #[.int .i64 n0_0, .int .i64 n0_1, .int .i64 n0_2]), reg.is (.agg #[.int .i64 n0_0, .int .i64 n0_1, .int .i64 n0_2]), reg.is (.int .i64 p), reg.is (.agg #[.int .i64 k, .int .i64 f, .int .i64 t, .int .i64 s, .int .i64 g, .bool m, .bool r, .int .i64 d, .slice A len cap]), stw.rowv .u8 y (fun A n c => .agg #[.int .i64 k, .int .i64 f, .int .i64 t, .int .i64 s, .int .i64 g, .bool m, .bool r, .int .i64 d, .slice A n c]), reg.is (.int .i64 q), reg.is (.agg #[.int .i64 x0, .int .i64 x1, .int .i64 x2]), stw.mk 25 (w.heap.size + 1) #[.int .i64 0, .int .i64 0, .int .i64 0], reg.free])
      (by kernel_rfl) rfl (by kernel_rfl) (by kernel_rfl) rfl
      (fun w1 w2 hc hb => ⟨hc.1.trans (hb.mono hc.1.size), hc.2.1.below hb, hc.2.2.1.below hb, hc.2.2.2.1.below hb, trivial⟩) (reg.rl_keep _) (⟨own.below_drew B1.out, X1.out.same rfl, F1.out.same rfl, own.rd_drew R1.out, trivial⟩) (by kernel_rfl) ⟨?_, ?_, ?_, ?_, ?_, ?_, ?_, ?_, trivial⟩ ?_
    · refine fun w8 hc  K hK => ?_
      (try simp only [Act.put, List.setIfInBounds_toArray, List.set_cons_zero, List.set_cons_succ])
      rw [if_pos (by rfl)]
      refine stw.wp_load_bx 39 _ rfl (w.heap.size) rfl 39 _ hc.2.1 Try.underlying39 rfl szL ?_
      exact hK _ _ rfl (Below.refl _ _)
    · refine fun w8 hc v0 h0 K hK => ?_
      obtain rfl : v0 = .agg #[.int .i64 n0_0, .int .i64 n0_1, .int .i64 n0_2] := h0
      (try simp only [Act.put, List.setIfInBounds_toArray, List.set_cons_zero, List.set_cons_succ])
      go_simp
      (with_reducible refine (rsh.toRv n0_0 n0_1 n0_2 _).mono ?_)
      rintro e w3 ⟨rfl, hb⟩
      exact hK _ _ rfl hb
    · refine fun w8 hc  K hK => ?_
      (try simp only [Act.put, List.setIfInBounds_toArray, List.set_cons_zero, List.set_cons_succ])
      go_simp
      exact hK (.int .i64 p) _ rfl (Below.refl _ _)
    · refine fun w8 hc  K hK => ?_
      (try simp only [Act.put, List.setIfInBounds_toArray, List.set_cons_zero, List.set_cons_succ])
      rw [if_pos (by rfl)]
      refine stw.wp_load_bx 43 _ rfl (w.heap.size + 1) rfl 43 _ hc.2.2.1 Try.underlying43 rfl szLM ?_
      exact hK _ _ rfl (Below.refl _ _)
    · refine fun w8 hc v3 h3 K hK => ?_
      obtain rfl : v3 = .agg #[.int .i64 k, .int .i64 f, .int .i64 t, .int .i64 s, .int .i64 g, .bool m, .bool r, .int .i64 d, .slice A len cap] := h3
      (try simp only [Act.put, List.setIfInBounds_toArray, List.set_cons_zero, List.set_cons_succ])
      go_simp
      (with_reducible refine (fbx.toMac k f t s g m r d A len cap y _ _ _ hc.2.2.2.1 HN.out).mono ?_)
      rintro e w3 ⟨A3, n3, c3, rfl, ho, hb⟩
      exact hK _ _ ⟨_, _, _, _, _, rfl, ho.rd⟩ hb
    · refine fun w8 hc  K hK => ?_
      (try simp only [Act.put, List.setIfInBounds_toArray, List.set_cons_zero, List.set_cons_succ])
      go_simp
      exact hK (.int .i64 q) _ rfl (Below.refl _ _)
    · refine fun w8 hc v1 h1 v2 h2 v4 h4 v5 h5 K hK => ?_
      obtain rfl : v1 = .agg #[.int .i64 n0_0, .int .i64 n0_1, .int .i64 n0_2] := h1
      obtain rfl : v2 = .int .i64 p := h2
      obtain ⟨Av4, nv4, cv4, lov4, hiv4, rfl, hRv4⟩ := h4
      obtain rfl : v5 = .int .i64 q := h5
      (try simp only [Act.put, List.setIfInBounds_toArray, List.set_cons_zero, List.set_cons_succ])
      go_simp
      (with_reducible refine (bx.specHf n0_0 n0_1 n0_2 p k f t s g m r d Av4 nv4 cv4 y hRv4.len q _).mono ?_)
      rintro e w3 hp
      obtain ⟨rfl, hb⟩ := r_parts HX.out hp
      exact hK _ _ rfl hb
    · refine fun w8 hc  K hK => ?_
      (try simp only [Act.put, List.setIfInBounds_toArray, List.set_cons_zero, List.set_cons_succ])
      rw [if_pos (by rfl)]
      have hlt := hc.2.2.1.lt
      go_simp
      exact hK (.pointer (some ⟨w8.heap.size, 0, none⟩)) _ ⟨w8.heap.size, rfl, hlt, Bx.made _ _ _⟩ (below_box _ _)
    refine fun w9 hc v0 h0 v1 h1 v2 h2 v3 h3 v4 h4 v5 h5 v6 h6 v7 h7 => ?_
    obtain rfl : v0 = .agg #[.int .i64 n0_0, .int .i64 n0_1, .int .i64 n0_2] := h0
    obtain rfl : v1 = .agg #[.int .i64 n0_0, .int .i64 n0_1, .int .i64 n0_2] := h1
    obtain rfl : v2 = .int .i64 p := h2
    obtain rfl : v3 = .agg #[.int .i64 k, .int .i64 f, .int .i64 t, .int .i64 s, .int .i64 g, .bool m, .bool r, .int .i64 d, .slice A len cap] := h3
    obtain ⟨Av4, nv4, cv4, lov4, hiv4, rfl, hRv4⟩ := h4
    obtain rfl : v5 = .int .i64 q := h5
    obtain rfl : v6 = .agg #[.int .i64 x0, .int .i64 x1, .int .i64 x2] := h6
    obtain ⟨qN, rfl, hq, hP⟩ : ∃ q, v7 = .pointer (some ⟨q, 0, none⟩) ∧ w.heap.size + 1 < q ∧ Bx 25 w9 q #[.int .i64 0, .int .i64 0, .int .i64 0] := h7
    (try simp only [reg.Obs])
    (try simp only [Act.put, List.setIfInBounds_toArray, List.set_cons_zero, List.set_cons_succ])
    simp only [List.drop_succ_cons, List.drop_zero]
    have B2 := Lib.hid hc.1
    have X2 := Lib.hid hc.2.1
    have F2 := Lib.hid hc.2.2.1
    have R2 := Lib.hid hc.2.2.2.1
    clear hc B1 X1 F1 R1
    have LN := Lib.hid hq
    have N2 := Lib.hid hP
    clear hq hP
    refine stw.list_store rfl 25 _ _ rfl (qN) #[.int .i64 x0, .int .i64 x1, .int .i64 x2] rfl rfl 25 _ N2.out rfl szR (oneR _ _ _) ?_
    intro wz3 hz
    (try simp only [Act.put])
    have B3 := Lib.hid (hz.on B2.out (by have hlN := LN.out; first | omega | (simp <;> omega)))
    have X3 := Lib.hid (hz.keep X2.out (by have hlN := LN.out; first | omega | (simp <;> omega)))
    have F3 := Lib.hid (hz.keep F2.out (by have hlN := LN.out; first | omega | (simp <;> omega)))
    have N3 := Lib.hid (hz.box)
    have R3 := Lib.hid (R2.out.same hz.below.size fun b h1 h2 => hz.other b (by have hlN := LN.out; first | omega | (simp <;> omega)))
    clear hz B2 X2 F2 N2 R2
    go_wp2_with (refine stw.list_load rfl 43 _ rfl (w.heap.size + 1) rfl 43 _ F3.out Try.underlying43 rfl szLM ?_)
    (with_reducible refine (fbx.toMac k f t s g m r d A len cap y _ _ _ R3.out HN.out).mono ?_)
    rintro e w4 ⟨A2, n2, c2, rfl, ho, hb⟩
    have B4 := Lib.hid (B3.out.trans (hb.mono B3.out.size))
    have X4 := Lib.hid (X3.out.below hb)
    have F4 := Lib.hid (F3.out.below hb)
    have N4 := Lib.hid (N3.out.below hb)
    have R4 := Lib.hid (R3.out.below hb)
    clear hb  B3 X3 F3 N3 R3
    have S4 := Lib.hid ho
    clear ho
    obtain ⟨bm, hbb⟩ : ∃ b, w4.heap.size = b := ⟨_, rfl⟩
    go_wp2_with fail
    generalize hW : w4.alloc (.cells #[.int .i64 k, .int .i64 f, .int .i64 t, .int .i64 s, .int .i64 g, .bool m, .bool r, .int .i64 d, .slice A2 n2 c2] 27) = w5
    have LM := Lib.hid (show w.heap.size ≤ bm ∧ w.heap.size < bm ∧ w.heap.size + 1 < bm ∧ qN < bm ∧ w.heap.size ≤ bm ∧ w4.heap.size ≤ bm by have h1 := B4.out.size; have h2X := X4.out.lt; have h2F := F4.out.lt; have h2N := N4.out.lt; have h2R := R4.out.hi_; have h2S := S4.out.hi_; have h3 := hbb; omega)
    have M5 := Lib.hid (show Bx 27 w5 bm #[.int .i64 k, .int .i64 f, .int .i64 t, .int .i64 s, .int .i64 g, .bool m, .bool r, .int .i64 d, .slice A2 n2 c2] by rw [← hW, ← hbb]; exact Bx.made _ _ _)
    have hb : Below w4.heap.size w4 w5 := by rw [← hW]; exact below_box _ _
    (try rw [hbb])
    clear hW hbb
    have B5 := Lib.hid (B4.out.trans (hb.mono B4.out.size))
    have X5 := Lib.hid (X4.out.below hb)
    have F5 := Lib.hid (F4.out.below hb)
    have N5 := Lib.hid (N4.out.below hb)
    have R5 := Lib.hid (R4.out.below hb)
    have S5 := Lib.hid (S4.out.below hb)
    clear hb B4 X4 F4 N4 R4 S4
    refine reg.region_tail reg.Bel 7 42 [some [], some [(0, 27)], some [], some [], some [], some [(1, 28), (2, 29), (3, 30), (4, 31)], some [], none] [(0, 27), (1, 28), (2, 29), (3, 30), (4, 31), (5, 32), (6, 12)]
      (fun w' => Below w.heap.size w w' ∧ Bx 39 w' (w.heap.size) #[.int .i64 n0_0, .int .i64 n0_1, .int .i64 n0_2] ∧ Bx 43 w' (w.heap.size + 1) #[.int .i64 k, .int .i64 f, .int .i64 t, .int .i64 s, .int .i64 g, .bool m, .bool r, .int .i64 d, .slice A len cap] ∧ Bx 25 w' (qN) #[.int .i64 x0, .int .i64 x1, .int .i64 x2] ∧ Bx 27 w' (bm) #[.int .i64 k, .int .i64 f, .int .i64 t, .int .i64 s, .int .i64 g, .bool m, .bool r, .int .i64 d, .slice A2 n2 c2] ∧ Rd .u8 w' (0) (w.heap.size) A len cap y ∧ Ow 5 .u8 w' (wz3.heap.size) (w4.heap.size) A2 n2 c2 y ∧ True)
      (reg.rl [reg.is (.agg #[.int .i64 n0_0, .int .i64 n0_1, .int .i64 n0_2]), reg.is (.agg #[.int .i64 n0_0, .int .i64 n0_1, .int .i64 n0_2]), reg.is (.int .i64 p), reg.is (.agg #[.int .i64 k, .int .i64 f, .int .i64 t, .int .i64 s, .int .i64 g, .bool m, .bool r, .int .i64 d, .slice A2 n2 c2]), reg.is (.int .i64 q), reg.is (.agg #[.int .i64 x0, .int .i64 x1, .int .i64 x2]), stw.mk 25 (bm) #[.int .i64 0, .int .i64 0, .int .i64 0], reg.free])
      (by kernel_rfl) rfl (by kernel_rfl) (by kernel_rfl) rfl
      (fun w1 w2 hc hb => ⟨hc.1.trans (hb.mono hc.1.size), hc.2.1.below hb, hc.2.2.1.below hb, hc.2.2.2.1.below hb, hc.2.2.2.2.1.below hb, hc.2.2.2.2.2.1.below hb, hc.2.2.2.2.2.2.1.below hb, trivial⟩) (reg.rl_keep _) (⟨own.below_drew B5.out, X5.out.same rfl, F5.out.same rfl, N5.out.same rfl, M5.out.same rfl, own.rd_drew R5.out, own.ow_drew S5.out, trivial⟩) (by kernel_rfl) ⟨?_, ?_, ?_, ?_, ?_, ?_, ?_, trivial⟩ ?_
    · refine fun w8 hc  K hK => ?_
      (try simp only [Act.put, List.setIfInBounds_toArray, List.set_cons_zero, List.set_cons_succ])
      rw [if_pos (by rfl)]
      refine stw.wp_load_bx 39 _ rfl (w.heap.size) rfl 39 _ hc.2.1 Try.underlying39 rfl szL ?_
      exact hK _ _ rfl (Below.refl _ _)
    · refine fun w8 hc v0 h0 K hK => ?_
      obtain rfl : v0 = .agg #[.int .i64 n0_0, .int .i64 n0_1, .int .i64 n0_2] := h0
      (try simp only [Act.put, List.setIfInBounds_toArray, List.set_cons_zero, List.set_cons_succ])
      go_simp
      (with_reducible refine (rsh.toRv n0_0 n0_1 n0_2 _).mono ?_)
      rintro e w3 ⟨rfl, hb⟩
      exact hK _ _ rfl hb
    · refine fun w8 hc  K hK => ?_
      (try simp only [Act.put, List.setIfInBounds_toArray, List.set_cons_zero, List.set_cons_succ])
      go_simp
      exact hK (.int .i64 p) _ rfl (Below.refl _ _)
    · refine fun w8 hc  K hK => ?_
      (try simp only [Act.put, List.setIfInBounds_toArray, List.set_cons_zero, List.set_cons_succ])
      rw [if_pos (by rfl)]
      refine stw.wp_load_bx 27 _ rfl (bm) rfl 27 _ hc.2.2.2.2.1 Try.underlying27 rfl szM ?_
      exact hK _ _ rfl (Below.refl _ _)
    · refine fun w8 hc  K hK => ?_
      (try simp only [Act.put, List.setIfInBounds_toArray, List.set_cons_zero, List.set_cons_succ])
      go_simp
      exact hK (.int .i64 q) _ rfl (Below.refl _ _)
    · refine fun w8 hc v1 h1 v2 h2 v3 h3 v4 h4 K hK => ?_
      obtain rfl : v1 = .agg #[.int .i64 n0_0, .int .i64 n0_1, .int .i64 n0_2] := h1
      obtain rfl : v2 = .int .i64 p := h2
      obtain rfl : v3 = .agg #[.int .i64 k, .int .i64 f, .int .i64 t, .int .i64 s, .int .i64 g, .bool m, .bool r, .int .i64 d, .slice A2 n2 c2] := h3
      obtain rfl : v4 = .int .i64 q := h4
      (try simp only [Act.put, List.setIfInBounds_toArray, List.set_cons_zero, List.set_cons_succ])
      go_simp
      (with_reducible refine (bx.implHf n0_0 n0_1 n0_2 p k f t s g m r d A2 n2 c2 y hc.2.2.2.2.2.2.1.len q _).mono ?_)
      rintro e w3 hp
      obtain ⟨rfl, hb⟩ := r_parts HX.out hp
      exact hK _ _ rfl hb
    · refine fun w8 hc  K hK => ?_
      (try simp only [Act.put, List.setIfInBounds_toArray, List.set_cons_zero, List.set_cons_succ])
      rw [if_pos (by rfl)]
      have hlt := hc.2.2.2.2.1.lt
      go_simp
      exact hK (.pointer (some ⟨w8.heap.size, 0, none⟩)) _ ⟨w8.heap.size, rfl, hlt, Bx.made _ _ _⟩ (below_box _ _)
    refine fun w9 hc v0 h0 v1 h1 v2 h2 v3 h3 v4 h4 v5 h5 v6 h6 => ?_
    obtain rfl : v0 = .agg #[.int .i64 n0_0, .int .i64 n0_1, .int .i64 n0_2] := h0
    obtain rfl : v1 = .agg #[.int .i64 n0_0, .int .i64 n0_1, .int .i64 n0_2] := h1
    obtain rfl : v2 = .int .i64 p := h2
    obtain rfl : v3 = .agg #[.int .i64 k, .int .i64 f, .int .i64 t, .int .i64 s, .int .i64 g, .bool m, .bool r, .int .i64 d, .slice A2 n2 c2] := h3
    obtain rfl : v4 = .int .i64 q := h4
    obtain rfl : v5 = .agg #[.int .i64 x0, .int .i64 x1, .int .i64 x2] := h5
    obtain ⟨qG, rfl, hq, hP⟩ : ∃ q, v6 = .pointer (some ⟨q, 0, none⟩) ∧ bm < q ∧ Bx 25 w9 q #[.int .i64 0, .int .i64 0, .int .i64 0] := h6
    (try simp only [reg.Obs])
    (try simp only [Act.put, List.setIfInBounds_toArray, List.set_cons_zero, List.set_cons_succ])
    simp only [List.drop_succ_cons, List.drop_zero]
    have B6 := Lib.hid hc.1
    have X6 := Lib.hid hc.2.1
    have F6 := Lib.hid hc.2.2.1
    have N6 := Lib.hid hc.2.2.2.1
    have M6 := Lib.hid hc.2.2.2.2.1
    have R6 := Lib.hid hc.2.2.2.2.2.1
    have S6 := Lib.hid hc.2.2.2.2.2.2.1
    clear hc B5 X5 F5 N5 M5 R5 S5
    have LG := Lib.hid hq
    have G6 := Lib.hid hP
    clear hq hP
    refine stw.list_store rfl 25 _ _ rfl (qG) #[.int .i64 x0, .int .i64 x1, .int .i64 x2] rfl rfl 25 _ G6.out rfl szR (oneR _ _ _) ?_
    intro wz7 hz
    (try simp only [Act.put])
    have B7 := Lib.hid (hz.on B6.out (by have hlN := LN.out; have hlM := LM.out; have hlG := LG.out; first | omega | (simp <;> omega)))
    have X7 := Lib.hid (hz.keep X6.out (by have hlN := LN.out; have hlM := LM.out; have hlG := LG.out; first | omega | (simp <;> omega)))
    have F7 := Lib.hid (hz.keep F6.out (by have hlN := LN.out; have hlM := LM.out; have hlG := LG.out; first | omega | (simp <;> omega)))
    have N7 := Lib.hid (hz.keep N6.out (by have hlN := LN.out; have hlM := LM.out; have hlG := LG.out; first | omega | (simp <;> omega)))
    have M7 := Lib.hid (hz.keep M6.out (by have hlN := LN.out; have hlM := LM.out; have hlG := LG.out; first | omega | (simp <;> omega)))
    have G7 := Lib.hid (hz.box)
    have R7 := Lib.hid (R6.out.same hz.below.size fun b h1 h2 => hz.other b (by have hlN := LN.out; have hlM := LM.out; have hlG := LG.out; first | omega | (simp <;> omega)))
    have S7 := Lib.hid (S6.out.same hz.below.size fun b h1 h2 => hz.other b (by have hlN := LN.out; have hlM := LM.out; have hlG := LG.out; first | omega | (simp <;> omega)))
    clear hz B6 X6 F6 N6 M6 G6 R6 S6
    go_wp2_with (first | (refine stw.list_load rfl 25 _ rfl (qG) rfl 25 _ G7.out Try.underlying25 rfl szR ?_) | (refine stw.list_load rfl 25 _ rfl (qN) rfl 25 _ N7.out Try.underlying25 rfl szR ?_))
    (with_reducible refine (rsh.eqRv_yes x0 x1 x2 _).mono ?_)
    rintro e w8 ⟨rfl, hb⟩
    have B8 := Lib.hid (B7.out.trans (hb.mono B7.out.size))
    have X8 := Lib.hid (X7.out.below hb)
    have F8 := Lib.hid (F7.out.below hb)
    have N8 := Lib.hid (N7.out.below hb)
    have M8 := Lib.hid (M7.out.below hb)
    have G8 := Lib.hid (G7.out.below hb)
    have R8 := Lib.hid (R7.out.below hb)
    have S8 := Lib.hid (S7.out.below hb)
    clear hb  B7 X7 F7 N7 M7 G7 R7 S7
    go_wp2_with fail
    refine reg.region_plain reg.Bel 42 [some [], some [], some [(1, 38)], some [(0, 37), (2, 39)], some [(3, 40)]] [(0, 37), (1, 38), (2, 39), (3, 40), (4, 41)]
      (fun w' => Below w.heap.size w w' ∧ Bx 39 w' (w.heap.size) #[.int .i64 n0_0, .int .i64 n0_1, .int .i64 n0_2] ∧ Bx 43 w' (w.heap.size + 1) #[.int .i64 k, .int .i64 f, .int .i64 t, .int .i64 s, .int .i64 g, .bool m, .bool r, .int .i64 d, .slice A len cap] ∧ Bx 25 w' (qN) #[.int .i64 x0, .int .i64 x1, .int .i64 x2] ∧ Bx 27 w' (bm) #[.int .i64 k, .int .i64 f, .int .i64 t, .int .i64 s, .int .i64 g, .bool m, .bool r, .int .i64 d, .slice A2 n2 c2] ∧ Bx 25 w' (qG) #[.int .i64 x0, .int .i64 x1, .int .i64 x2] ∧ Rd .u8 w' (0) (w.heap.size) A len cap y ∧ Ow 5 .u8 w' (wz3.heap.size) (w4.heap.size) A2 n2 c2 y ∧ True)
      (reg.rl [reg.is (.agg #[.int .i64 k, .int .i64 f, .int .i64 t, .int .i64 s, .int .i64 g, .bool m, .bool r, .int .i64 d, .slice A2 n2 c2]), reg.is (.agg #[.int .i64 k, .int .i64 f, .int .i64 t, .int .i64 s, .int .i64 g, .bool m, .bool r, .int .i64 d, .slice A len cap]), stw.rowv .u8 y (fun A n c => .agg #[.int .i64 k, .int .i64 f, .int .i64 t, .int .i64 s, .int .i64 g, .bool m, .bool r, .int .i64 d, .slice A n c]), reg.is (.bool true), reg.is (.bool false)])
      (by kernel_rfl) (by kernel_rfl) rfl
      (fun w1 w2 hc hb => ⟨hc.1.trans (hb.mono hc.1.size), hc.2.1.below hb, hc.2.2.1.below hb, hc.2.2.2.1.below hb, hc.2.2.2.2.1.below hb, hc.2.2.2.2.2.1.below hb, hc.2.2.2.2.2.2.1.below hb, hc.2.2.2.2.2.2.2.1.below hb, trivial⟩) (reg.rl_keep _) (⟨own.below_drew B8.out, X8.out.same rfl, F8.out.same rfl, N8.out.same rfl, M8.out.same rfl, G8.out.same rfl, own.rd_drew R8.out, own.ow_drew S8.out, trivial⟩) (by kernel_rfl) ⟨?_, ?_, ?_, ?_, ?_, trivial⟩ ?_
    · refine fun w8 hc  K hK => ?_
      (try simp only [Act.put, List.setIfInBounds_toArray, List.set_cons_zero, List.set_cons_succ])
      rw [if_pos (by rfl)]
      refine stw.wp_load_bx 27 _ rfl (bm) rfl 27 _ hc.2.2.2.2.1 Try.underlying27 rfl szM ?_
      exact hK _ _ rfl (Below.refl _ _)
    · refine fun w8 hc  K hK => ?_
      (try simp only [Act.put, List.setIfInBounds_toArray, List.set_cons_zero, List.set_cons_succ])
      rw [if_pos (by rfl)]
      refine stw.wp_load_bx 43 _ rfl (w.heap.size + 1) rfl 43 _ hc.2.2.1 Try.underlying43 rfl szLM ?_
      exact hK _ _ rfl (Below.refl _ _)
    · refine fun w8 hc v1 h1 K hK => ?_
      obtain rfl : v1 = .agg #[.int .i64 k, .int .i64 f, .int .i64 t, .int .i64 s, .int .i64 g, .bool m, .bool r, .int .i64 d, .slice A len cap] := h1
      (try simp only [Act.put, List.setIfInBounds_toArray, List.set_cons_zero, List.set_cons_succ])
      go_simp
      (with_reducible refine (fbx.toMac k f t s g m r d A len cap y _ _ _ hc.2.2.2.2.2.2.1 HN.out).mono ?_)
      rintro e w3 ⟨A3, n3, c3, rfl, ho, hb⟩
      exact hK _ _ ⟨_, _, _, _, _, rfl, ho.rd⟩ hb
    · refine fun w8 hc v0 h0 v2 h2 K hK => ?_
      obtain rfl : v0 = .agg #[.int .i64 k, .int .i64 f, .int .i64 t, .int .i64 s, .int .i64 g, .bool m, .bool r, .int .i64 d, .slice A2 n2 c2] := h0
      obtain ⟨Av2, nv2, cv2, lov2, hiv2, rfl, hRv2⟩ := h2
      (try simp only [Act.put, List.setIfInBounds_toArray, List.set_cons_zero, List.set_cons_succ])
      go_simp
      (with_reducible refine (fbx.eqMac k f t s g m r d A2 n2 c2 Av2 nv2 cv2 y _ _ _ _ _ hc.2.2.2.2.2.2.2.1.rd hRv2).mono ?_)
      rintro e w3 hp
      obtain ⟨rfl, hb⟩ := fbx.b_parts rfl hp
      exact hK _ _ rfl hb
    · refine fun w8 hc v3 h3 K hK => ?_
      obtain rfl : v3 = .bool true := h3
      (try simp only [Act.put, List.setIfInBounds_toArray, List.set_cons_zero, List.set_cons_succ])
      go_simp
      exact hK (.bool false) _ rfl (Below.refl _ _)
    refine fun w9 hc v0 h0 v1 h1 v2 h2 v3 h3 v4 h4 => ?_
    obtain rfl : v0 = .agg #[.int .i64 k, .int .i64 f, .int .i64 t, .int .i64 s, .int .i64 g, .bool m, .bool r, .int .i64 d, .slice A2 n2 c2] := h0
    obtain rfl : v1 = .agg #[.int .i64 k, .int .i64 f, .int .i64 t, .int .i64 s, .int .i64 g, .bool m, .bool r, .int .i64 d, .slice A len cap] := h1
    obtain ⟨Av2, nv2, cv2, lov2, hiv2, rfl, hRv2⟩ := h2
    obtain rfl : v3 = .bool true := h3
    obtain rfl : v4 = .bool false := h4
    (try simp only [reg.Obs])
    (try simp only [Act.put, List.setIfInBounds_toArray, List.set_cons_zero, List.set_cons_succ])
    have B9 := Lib.hid hc.1
    have X9 := Lib.hid hc.2.1
    have F9 := Lib.hid hc.2.2.1
    have N9 := Lib.hid hc.2.2.2.1
    have M9 := Lib.hid hc.2.2.2.2.1
    have G9 := Lib.hid hc.2.2.2.2.2.1
    have R9 := Lib.hid hc.2.2.2.2.2.2.1
    have S9 := Lib.hid hc.2.2.2.2.2.2.2.1
    clear hc B8 X8 F8 N8 M8 G8 R8 S8
    go_wp2_with fail
    go_ret
    exact ⟨rfl, B9.out⟩
end Go.Proofs.Ytebbnopconbnlaa.xExactHearFrame
