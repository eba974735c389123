/- The law function of the countdown (FnCountdown) returns true and leaves what was there. Condition: the argument is a slice of bytes that came in. -/
import Derived.Test.YtkfkfejjhfkobaaDrawU
import Derived.Test.YtkfkfejjhfkobaaBot
import Derived.Test.YtkfkfejjhfkobaaStv
import Derived.Deep.Cut
namespace Go.Proofs.Ytkfkfejjhfkobaa.cntLaw
open Go.RowKit sl harn rng acm bx bom stw
set_option linter.unusedVariables false
set_option linter.unusedSimpArgs false

set_option maxRecDepth 100000 in
set_option maxHeartbeats 16000000 in
theorem walk (A : Option Addr) (len cap : Nat) (zs : List Int) (w : World) (r0 : kit.IsRow .u8 w A len cap zs) :
    Calls Try.prog 3 #[.slice A len cap] w fun e w' => e = .returned (.bool true) ∧ Below w.heap.size w w' := by
  have HC := Lib.hid (draw.code_of_row r0)
  have hlen : (len : Int) ≤ 9223372036854775807 := by have := HC.out.1; omega
  clear r0
  by_cases hbig : 1048576 < (len : Int)
  · go_enter Try.func3, Try.ntmps3
    go_wp2
    go_ret
    exact ⟨rfl, Below.refl _ _⟩
  go_enter Try.func3, Try.ntmps3
  go_wp2_with (go_at_call 11; go_in)
  clear hbig
  go_wp2_with fail
  (with_reducible refine (draw.drawIvb _ A len cap HC.out).mono ?_)
  rintro e w1 ⟨⟨a, b, c, d, x, t, j, r, n⟩, rfl, hb⟩
  have B1 := Lib.hid hb
  clear hb HC hlen
  obtain ⟨p, hbb⟩ : ∃ b, w1.heap.size = b := ⟨_, rfl⟩
  go_wp2_with fail
  generalize hW : w1.alloc (.cells #[.int .i64 a, .int .i64 b, .int .i64 c, .int .i64 d, .int .i64 x, .int .i64 t, .int .i64 j, .int .i64 r, .int .i64 n] 27) = w2
  have B2 := Lib.hid (show Below w.heap.size w w2 by rw [← hW]; exact B1.out.alloc B1.out.size _)
  have X2 := Lib.hid (show Bx 27 w2 p #[.int .i64 a, .int .i64 b, .int .i64 c, .int .i64 d, .int .i64 x, .int .i64 t, .int .i64 j, .int .i64 r, .int .i64 n] by rw [← hW, ← hbb]; exact Bx.made _ _ _)
  have LX := Lib.hid (show w.heap.size ≤ p by have h1 := B1.out.size;  have h3 := hbb; omega)
  (try rw [hbb])
  clear hW hbb B1 
  obtain ⟨m, hm⟩ : ∃ m, slo ⟨a, b, c, d, x, t, j, r, n⟩ = m := ⟨_, rfl⟩
  have HM := Lib.hid hm
  clear hm
  obtain ⟨v, hv⟩ : ∃ v, vb ⟨a, b, c, d, x, t, j, r, n⟩ = v := ⟨_, rfl⟩
  have HV := Lib.hid hv
  clear hv
  go_wp2_with (refine list_load rfl 27 _ rfl (p) rfl 27 _ X2.out Try.underlying27 rfl szB ?_)
  (with_reducible refine (implSu a b c d x t j r n _).mono ?_)
  rintro e w3 hp
  obtain ⟨rfl, hb⟩ := n_parts HM.out hp
  clear hp
  have B3 := Lib.hid (B2.out.trans (hb.mono B2.out.size))
  have X3 := Lib.hid (X2.out.below hb)
  clear hb B2 X2
  go_wp2_with (refine list_load rfl 27 _ rfl (p) rfl 27 _ X3.out Try.underlying27 rfl szB ?_)
  (with_reducible refine (specVb a b c d x t j r n _).mono ?_)
  rintro e w4 hp
  obtain ⟨rfl, hb⟩ := b_parts HV.out hp
  clear hp
  have B4 := Lib.hid (B3.out.trans (hb.mono B3.out.size))
  have X4 := Lib.hid (X3.out.below hb)
  clear hb B3 X3
  cases v with
  | true =>
    have VV := Lib.hid (vb_iff.1 HV.out)
    have hm1 : 0 ≤ m ∧ m ≤ 1038 := by rw [← HM.out]; exact slo_in VV.out
    have HB := Lib.hid hm1
    clear HV hm1
    obtain ⟨q, hbb⟩ : ∃ b, w4.heap.size = b := ⟨_, rfl⟩
    go_wp2_with (refine list_load rfl 27 _ rfl (p) rfl 27 _ X4.out Try.underlying27 rfl szB ?_)
    generalize hW : w4.alloc (.cells #[.int .i64 a, .int .i64 b, .int .i64 c, .int .i64 d, .int .i64 x, .int .i64 t, .int .i64 j, .int .i64 r, .int .i64 n] 27) = w5
    have B5 := Lib.hid (show Below w.heap.size w w5 by rw [← hW]; exact B4.out.alloc B4.out.size _)
    have X5 := Lib.hid (show Bx 27 w5 (p) #[.int .i64 a, .int .i64 b, .int .i64 c, .int .i64 d, .int .i64 x, .int .i64 t, .int .i64 j, .int .i64 r, .int .i64 n] by rw [← hW]; exact X4.out.below (below_box _ _))
    have Y5 := Lib.hid (show Bx 27 w5 q #[.int .i64 a, .int .i64 b, .int .i64 c, .int .i64 d, .int .i64 x, .int .i64 t, .int .i64 j, .int .i64 r, .int .i64 n] by rw [← hW, ← hbb]; exact Bx.made _ _ _)
    have LY := Lib.hid (show w.heap.size ≤ q ∧ p < q by have h1 := B4.out.size; have h2X := X4.out.lt; have h3 := hbb; omega)
    (try rw [hbb])
    clear hW hbb B4 X4
    go_loopw [6] (fun i wr => ∃ k : Nat, i = .int .i64 k ∧ (k : Int) ≤ m ∧ Below w.heap.size w wr ∧ Bx 27 wr p #[.int .i64 a, .int .i64 b, .int .i64 c, .int .i64 d, .int .i64 x, .int .i64 t, .int .i64 j, .int .i64 r, .int .i64 n] ∧ Bx 27 wr q (bv (itk ⟨a, b, c, d, x, t, j, r, n⟩ k))) (fun i _ => m.toNat - (intOf i).toNat)
    case atStart => exact ⟨0, rfl, HB.out.1, B5.out, X5.out, Y5.out⟩
    case round =>
      clear B5 X5 Y5
      obtain ⟨k, rfl, hk, hB, hX, hY⟩ := hrel
      obtain ⟨a2, b2, c2, d2, x2, t2, j2, r2, n2, hq⟩ : ∃ z0 z1 z2 z3 z4 z5 z6 z7 z8, itk ⟨a, b, c, d, x, t, j, r, n⟩ k = ⟨z0, z1, z2, z3, z4, z5, z6, z7, z8⟩ := ⟨_, _, _, _, _, _, _, _, _, rfl⟩
      rw [hq] at hY
      have HQ := Lib.hid hq
      have B20 := Lib.hid hB
      have X20 := Lib.hid hX
      have Y20 := Lib.hid (show Bx 27 wr q #[.int .i64 a2, .int .i64 b2, .int .i64 c2, .int .i64 d2, .int .i64 x2, .int .i64 t2, .int .i64 j2, .int .i64 r2, .int .i64 n2] from hY)
      have V2 := Lib.hid (show Vb ⟨a2, b2, c2, d2, x2, t2, j2, r2, n2⟩ by rw [← HQ.out]; exact itk_vb VV.out k)
      have HS := Lib.hid (show slo ⟨a2, b2, c2, d2, x2, t2, j2, r2, n2⟩ = m - k by rw [← HQ.out, slo_itk VV.out k (by rw [HM.out]; exact hk), HM.out])
      clear hq hB hX hY
      have hm1 := HB.out
      by_cases hlt : (k : Int) < m
      · have HR := Lib.hid (show rdy ⟨a2, b2, c2, d2, x2, t2, j2, r2, n2⟩ = false by rw [rdy_slo V2.out, HS.out]; exact decide_eq_false (by omega))
        have HVb := Lib.hid (vb_iff.2 V2.out)
        obtain ⟨a3, b3, c3, d3, x3, t3, j3, r3, n3, h3⟩ : ∃ z0 z1 z2 z3 z4 z5 z6 z7 z8, tik ⟨a2, b2, c2, d2, x2, t2, j2, r2, n2⟩ false = ⟨z0, z1, z2, z3, z4, z5, z6, z7, z8⟩ := ⟨_, _, _, _, _, _, _, _, _, rfl⟩
        have H3 := Lib.hid h3
        clear h3
        have m1 : IntKind.i64.wrap ((k : Int) + 1) = (k : Int) + 1 := IntWalk.i64_in _ (by omega)
        have HL := Lib.hid hlt
        have HK := Lib.hid m1
        clear m1 hk hm1
        go_wp2_with (refine list_load rfl 27 _ rfl (q) rfl 27 _ Y20.out Try.underlying27 rfl szB ?_)
        clear hlt
        (with_reducible refine (implRy a2 b2 c2 d2 x2 t2 j2 r2 n2 _).mono ?_)
        rintro e w21 hp
        obtain ⟨rfl, hb⟩ := b_parts HR.out hp
        clear hp
        have B21 := Lib.hid (B20.out.trans (hb.mono B20.out.size))
        have X21 := Lib.hid (X20.out.below hb)
        have Y21 := Lib.hid (Y20.out.below hb)
        clear hb B20 X20 Y20
        have cY0 : w21.cell? ⟨q, 0, none⟩ = some (.int .i64 a2) := Y21.out.cell 0
        have cY1 : w21.cell? ⟨q, 1, none⟩ = some (.int .i64 b2) := Y21.out.cell 1
        have cY2 : w21.cell? ⟨q, 2, none⟩ = some (.int .i64 c2) := Y21.out.cell 2
        have cY3 : w21.cell? ⟨q, 3, none⟩ = some (.int .i64 d2) := Y21.out.cell 3
        have cY4 : w21.cell? ⟨q, 4, none⟩ = some (.int .i64 x2) := Y21.out.cell 4
        have cY5 : w21.cell? ⟨q, 5, none⟩ = some (.int .i64 t2) := Y21.out.cell 5
        have cY6 : w21.cell? ⟨q, 6, none⟩ = some (.int .i64 j2) := Y21.out.cell 6
        have cY7 : w21.cell? ⟨q, 7, none⟩ = some (.int .i64 r2) := Y21.out.cell 7
        have cY8 : w21.cell? ⟨q, 8, none⟩ = some (.int .i64 n2) := Y21.out.cell 8
        go_wp2_with fail
        (with_reducible refine (implVb a2 b2 c2 d2 x2 t2 j2 r2 n2 _).mono ?_)
        rintro e w22 hp
        obtain ⟨rfl, hb⟩ := b_parts HVb.out hp
        clear hp
        clear cY0 cY1 cY2 cY3 cY4 cY5 cY6 cY7 cY8
        have B22 := Lib.hid (B21.out.trans (hb.mono B21.out.size))
        have X22 := Lib.hid (X21.out.below hb)
        have Y22 := Lib.hid (Y21.out.below hb)
        clear hb B21 X21 Y21
        go_wp2_with (refine list_load rfl 27 _ rfl (q) rfl 27 _ Y22.out Try.underlying27 rfl szB ?_)
        (with_reducible refine (implTi a2 b2 c2 d2 x2 t2 j2 r2 n2 false _).mono ?_)
        rintro e w23 hp
        obtain ⟨rfl, hb⟩ := o_parts H3.out hp
        clear hp
        have B23 := Lib.hid (B22.out.trans (hb.mono B22.out.size))
        have X23 := Lib.hid (X22.out.below hb)
        have Y23 := Lib.hid (Y22.out.below hb)
        clear hb B22 X22 Y22
        have m1 := HK.out
        go_wp2_with (refine list_store rfl 27 _ _ rfl (q) #[.int .i64 a3, .int .i64 b3, .int .i64 c3, .int .i64 d3, .int .i64 x3, .int .i64 t3, .int .i64 j3, .int .i64 r3, .int .i64 n3] rfl rfl 27 _ Y23.out rfl szB (one9 _ _ _ _ _ _ _ _ _) ?_; intro wz hz)
        have B24 := Lib.hid (hz.on B23.out (by have h1 := LY.out; omega))
        have X24 := Lib.hid (hz.keep X23.out (by have h1 := LY.out; have h2 := LX.out; omega))
        go_roundw
        case rel => exact ⟨k + 1, by go_num, by have := HL.out; omega, B24.out, X24.out, by show Bx 27 wz q (bv (tik (itk ⟨a, b, c, d, x, t, j, r, n⟩ k) false)); rw [HQ.out, H3.out]; exact hz.box⟩
        case measure => have := HL.out; have := HB.out; simp [intOf]; omega
      · have HR := Lib.hid (show rdy ⟨a2, b2, c2, d2, x2, t2, j2, r2, n2⟩ = true by rw [rdy_slo V2.out, HS.out]; exact decide_eq_true (by omega))
        have HS0 := Lib.hid (show slo ⟨a2, b2, c2, d2, x2, t2, j2, r2, n2⟩ = 0 by rw [HS.out]; omega)
        have HT := Lib.hid (show tik ⟨a, b, c, d, x, t, j, r, n⟩ true = ⟨a, b, c, d, x, t, 0, r, n⟩ from tik_busy VV.out)
        have V4 := Lib.hid (show Vb ⟨a, b, c, d, x, t, 0, r, n⟩ by have := tik_vb VV.out true; rw [HT.out] at this; exact this)
        obtain ⟨g, hg⟩ : ∃ g, a + t = g := ⟨_, rfl⟩
        have hg1 : 0 ≤ a ∧ a ≤ 15 ∧ 0 ≤ t ∧ t ≤ 1023 := wait_in VV.out
        have m1 : IntKind.i64.wrap g = g := IntWalk.i64_in _ (by omega)
        have HG := Lib.hid (show slo ⟨a, b, c, d, x, t, 0, r, n⟩ = g by rw [slo_yes V4.out]; show a - 0 + t = g; omega)
        have HG2 := Lib.hid hg
        have HGW := Lib.hid m1
        clear m1 hg hg1 hm1
        go_wp2_with (refine list_load rfl 27 _ rfl (p) rfl 27 _ X20.out Try.underlying27 rfl szB ?_)
        clear hlt hk
        (with_reducible refine (implTi a b c d x t j r n true _).mono ?_)
        rintro e w21 hp
        obtain ⟨rfl, hb⟩ := o_parts HT.out hp
        clear hp
        have B21 := Lib.hid (B20.out.trans (hb.mono B20.out.size))
        have X21 := Lib.hid (X20.out.below hb)
        have Y21 := Lib.hid (Y20.out.below hb)
        clear hb B20 X20 Y20
        obtain ⟨s, hbb⟩ : ∃ b, w21.heap.size = b := ⟨_, rfl⟩
        go_wp2_with fail
        generalize hW : w21.alloc (.cells #[.int .i64 a, .int .i64 b, .int .i64 c, .int .i64 d, .int .i64 x, .int .i64 t, .int .i64 0, .int .i64 r, .int .i64 n] 27) = w22
        have B22 := Lib.hid (show Below w.heap.size w w22 by rw [← hW]; exact B21.out.alloc B21.out.size _)
        have X22 := Lib.hid (show Bx 27 w22 (p) #[.int .i64 a, .int .i64 b, .int .i64 c, .int .i64 d, .int .i64 x, .int .i64 t, .int .i64 j, .int .i64 r, .int .i64 n] by rw [← hW]; exact X21.out.below (below_box _ _))
        have Y22 := Lib.hid (show Bx 27 w22 (q) #[.int .i64 a2, .int .i64 b2, .int .i64 c2, .int .i64 d2, .int .i64 x2, .int .i64 t2, .int .i64 j2, .int .i64 r2, .int .i64 n2] by rw [← hW]; exact Y21.out.below (below_box _ _))
        have W22 := Lib.hid (show Bx 27 w22 s #[.int .i64 a, .int .i64 b, .int .i64 c, .int .i64 d, .int .i64 x, .int .i64 t, .int .i64 0, .int .i64 r, .int .i64 n] by rw [← hW, ← hbb]; exact Bx.made _ _ _)
        have LW := Lib.hid (show w.heap.size ≤ s ∧ p < s ∧ q < s by have h1 := B21.out.size; have h2X := X21.out.lt; have h2Y := Y21.out.lt; have h3 := hbb; omega)
        (try rw [hbb])
        clear hW hbb B21 X21 Y21
        refine reg.region_plain reg.Bel 72 [some [], some [(0, 47)], some [(1, 48)], some [(2, 49)], some [(3, 50), (2, 49)], some [(2, 49)], some [(5, 52), (2, 49)], some [(6, 53), (2, 49)], some [(2, 49)], some [(8, 55), (2, 49)], some [(7, 54), (9, 56), (2, 49)], some [(4, 51), (10, 57), (2, 49)], some [(2, 49), (11, 58)], some [(12, 59)], some [(13, 60)], some [(14, 61), (13, 60)], some [(13, 60)], some [(16, 63), (13, 60)], some [(15, 62), (17, 64), (13, 60)], some [(13, 60), (18, 65)], some [(19, 66)], some [(20, 67)], some [(21, 68), (20, 67)], some [(22, 69), (20, 67)], some [(20, 67), (23, 70)], some [(24, 71)]] [(0, 47), (1, 48), (2, 49), (3, 50), (4, 51), (5, 52), (6, 53), (7, 54), (8, 55), (9, 56), (10, 57), (11, 58), (12, 59), (13, 60), (14, 61), (15, 62), (16, 63), (17, 64), (18, 65), (19, 66), (20, 67), (21, 68), (22, 69), (23, 70), (24, 71), (25, 2)]
          (fun w' => Below w.heap.size w w' ∧ Bx 27 w' (p) #[.int .i64 a, .int .i64 b, .int .i64 c, .int .i64 d, .int .i64 x, .int .i64 t, .int .i64 j, .int .i64 r, .int .i64 n] ∧ Bx 27 w' (q) #[.int .i64 a2, .int .i64 b2, .int .i64 c2, .int .i64 d2, .int .i64 x2, .int .i64 t2, .int .i64 j2, .int .i64 r2, .int .i64 n2] ∧ Bx 27 w' (s) #[.int .i64 a, .int .i64 b, .int .i64 c, .int .i64 d, .int .i64 x, .int .i64 t, .int .i64 0, .int .i64 r, .int .i64 n])
          (reg.rl [reg.is (.agg #[.int .i64 a2, .int .i64 b2, .int .i64 c2, .int .i64 d2, .int .i64 x2, .int .i64 t2, .int .i64 j2, .int .i64 r2, .int .i64 n2]), reg.is (.bool true), reg.is (.bool true), reg.is (.agg #[.int .i64 a, .int .i64 b, .int .i64 c, .int .i64 d, .int .i64 x, .int .i64 t, .int .i64 0, .int .i64 r, .int .i64 n]), reg.is (.int .i64 g), reg.is (.pointer (some ⟨p, 0, none⟩)), reg.is (.pointer (some ⟨p, 0, none⟩)), reg.is (.int .i64 a), reg.is (.pointer (some ⟨p, 5, none⟩)), reg.is (.int .i64 t), reg.is (.int .i64 g), reg.is (.bool true), reg.is (.bool true), reg.is (.bool true), reg.is (.pointer (some ⟨s, 5, none⟩)), reg.is (.int .i64 t), reg.is (.pointer (some ⟨p, 5, none⟩)), reg.is (.int .i64 t), reg.is (.bool true), reg.is (.bool true), reg.is (.bool true), reg.is (.agg #[.int .i64 a2, .int .i64 b2, .int .i64 c2, .int .i64 d2, .int .i64 x2, .int .i64 t2, .int .i64 j2, .int .i64 r2, .int .i64 n2]), reg.is (.int .i64 0), reg.is (.bool true), reg.is (.bool true), reg.is (.bool true)])
          (by kernel_rfl) (by kernel_rfl) rfl
          (fun w1 w2 hc hb => ⟨hc.1.trans (hb.mono hc.1.size), hc.2.1.below hb, hc.2.2.1.below hb, hc.2.2.2.below hb⟩) (reg.rl_keep _) (⟨own.below_drew B22.out, X22.out.same rfl, Y22.out.same rfl, W22.out.same rfl⟩) (by kernel_rfl) ⟨?_, ?_, ?_, ?_, ?_, ?_, ?_, ?_, ?_, ?_, ?_, ?_, ?_, ?_, ?_, ?_, ?_, ?_, ?_, ?_, ?_, ?_, ?_, ?_, ?_, ?_, trivial⟩ ?_
        · refine fun w8 hc  K hK => ?_
          (try simp only [Act.put, List.setIfInBounds_toArray, List.set_cons_zero, List.set_cons_succ])
          refine step_load rfl 27 _ rfl (q) rfl 27 _ hc.2.2.1 Try.underlying27 rfl szB ?_
          exact hK _ _ rfl (Below.refl _ _)
        · refine fun w8 hc v0 h0 K hK => ?_
          obtain rfl : v0 = .agg #[.int .i64 a2, .int .i64 b2, .int .i64 c2, .int .i64 d2, .int .i64 x2, .int .i64 t2, .int .i64 j2, .int .i64 r2, .int .i64 n2] := h0
          (try simp only [Act.put, List.setIfInBounds_toArray, List.set_cons_zero, List.set_cons_succ])
          go_simp
          (with_reducible refine (implRy a2 b2 c2 d2 x2 t2 j2 r2 n2 _).mono ?_)
          rintro e w3 hp
          obtain ⟨rfl, hb⟩ := b_parts HR.out hp
          exact hK _ _ rfl hb
        · refine fun w8 hc v1 h1 K hK => ?_
          obtain rfl : v1 = .bool true := h1
          (try simp only [Act.put, List.setIfInBounds_toArray, List.set_cons_zero, List.set_cons_succ])
          go_simp
          exact hK (.bool true) _ rfl (Below.refl _ _)
        · refine fun w8 hc v2 h2 K hK => ?_
          obtain rfl : v2 = .bool true := h2
          (try simp only [Act.put, List.setIfInBounds_toArray, List.set_cons_zero, List.set_cons_succ])
          rw [if_pos (by rfl)]
          refine wp_load_bx 27 _ rfl (s) rfl 27 _ hc.2.2.2 Try.underlying27 rfl szB ?_
          exact hK _ _ rfl (Below.refl _ _)
        · refine fun w8 hc v3 h3 v2 h2 K hK => ?_
          obtain rfl : v3 = .agg #[.int .i64 a, .int .i64 b, .int .i64 c, .int .i64 d, .int .i64 x, .int .i64 t, .int .i64 0, .int .i64 r, .int .i64 n] := h3
          obtain rfl : v2 = .bool true := h2
          (try simp only [Act.put, List.setIfInBounds_toArray, List.set_cons_zero, List.set_cons_succ])
          rw [if_pos (by rfl)]
          go_simp
          (with_reducible refine (implSu a b c d x t 0 r n _).mono ?_)
          rintro e w3 hp
          obtain ⟨rfl, hb⟩ := n_parts HG.out hp
          exact hK _ _ rfl hb
        · refine fun w8 hc v2 h2 K hK => ?_
          obtain rfl : v2 = .bool true := h2
          (try simp only [Act.put, List.setIfInBounds_toArray, List.set_cons_zero, List.set_cons_succ])
          rw [if_pos (by rfl)]
          go_simp
          exact hK (.pointer (some ⟨p, 0, none⟩)) _ rfl (Below.refl _ _)
        · refine fun w8 hc v5 h5 v2 h2 K hK => ?_
          obtain rfl : v5 = .pointer (some ⟨p, 0, none⟩) := h5
          obtain rfl : v2 = .bool true := h2
          (try simp only [Act.put, List.setIfInBounds_toArray, List.set_cons_zero, List.set_cons_succ])
          rw [if_pos (by rfl)]
          go_simp
          exact hK (.pointer (some ⟨p, 0, none⟩)) _ rfl (Below.refl _ _)
        · refine fun w8 hc v6 h6 v2 h2 K hK => ?_
          obtain rfl : v6 = .pointer (some ⟨p, 0, none⟩) := h6
          obtain rfl : v2 = .bool true := h2
          (try simp only [Act.put, List.setIfInBounds_toArray, List.set_cons_zero, List.set_cons_succ])
          rw [if_pos (by rfl)]
          have c0 : w8.cell? ⟨p, 0, none⟩ = some (.int .i64 a) := hc.2.1.cell 0
          go_simp
          exact hK (.int .i64 a) _ rfl (Below.refl _ _)
        · refine fun w8 hc v2 h2 K hK => ?_
          obtain rfl : v2 = .bool true := h2
          (try simp only [Act.put, List.setIfInBounds_toArray, List.set_cons_zero, List.set_cons_succ])
          rw [if_pos (by rfl)]
          go_simp
          exact hK (.pointer (some ⟨p, 5, none⟩)) _ rfl (Below.refl _ _)
        · refine fun w8 hc v8 h8 v2 h2 K hK => ?_
          obtain rfl : v8 = .pointer (some ⟨p, 5, none⟩) := h8
          obtain rfl : v2 = .bool true := h2
          (try simp only [Act.put, List.setIfInBounds_toArray, List.set_cons_zero, List.set_cons_succ])
          rw [if_pos (by rfl)]
          have c0 : w8.cell? ⟨p, 5, none⟩ = some (.int .i64 t) := hc.2.1.cell 5
          go_simp
          exact hK (.int .i64 t) _ rfl (Below.refl _ _)
        · refine fun w8 hc v7 h7 v9 h9 v2 h2 K hK => ?_
          obtain rfl : v7 = .int .i64 a := h7
          obtain rfl : v9 = .int .i64 t := h9
          obtain rfl : v2 = .bool true := h2
          (try simp only [Act.put, List.setIfInBounds_toArray, List.set_cons_zero, List.set_cons_succ])
          rw [if_pos (by rfl)]
          have m1 := HGW.out
          have hg := HG2.out
          go_simp
          exact hK (.int .i64 g) _ rfl (Below.refl _ _)
        · refine fun w8 hc v4 h4 v10 h10 v2 h2 K hK => ?_
          obtain rfl : v4 = .int .i64 g := h4
          obtain rfl : v10 = .int .i64 g := h10
          obtain rfl : v2 = .bool true := h2
          (try simp only [Act.put, List.setIfInBounds_toArray, List.set_cons_zero, List.set_cons_succ])
          rw [if_pos (by rfl)]
          go_simp
          exact hK (.bool true) _ rfl (Below.refl _ _)
        · refine fun w8 hc v2 h2 v11 h11 K hK => ?_
          obtain rfl : v2 = .bool true := h2
          obtain rfl : v11 = .bool true := h11
          (try simp only [Act.put, List.setIfInBounds_toArray, List.set_cons_zero, List.set_cons_succ])
          go_simp
          exact hK (.bool true) _ rfl (Below.refl _ _)
        · refine fun w8 hc v12 h12 K hK => ?_
          obtain rfl : v12 = .bool true := h12
          (try simp only [Act.put, List.setIfInBounds_toArray, List.set_cons_zero, List.set_cons_succ])
          go_simp
          exact hK (.bool true) _ rfl (Below.refl _ _)
        · refine fun w8 hc v13 h13 K hK => ?_
          obtain rfl : v13 = .bool true := h13
          (try simp only [Act.put, List.setIfInBounds_toArray, List.set_cons_zero, List.set_cons_succ])
          rw [if_pos (by rfl)]
          go_simp
          exact hK (.pointer (some ⟨s, 5, none⟩)) _ rfl (Below.refl _ _)
        · refine fun w8 hc v14 h14 v13 h13 K hK => ?_
          obtain rfl : v14 = .pointer (some ⟨s, 5, none⟩) := h14
          obtain rfl : v13 = .bool true := h13
          (try simp only [Act.put, List.setIfInBounds_toArray, List.set_cons_zero, List.set_cons_succ])
          rw [if_pos (by rfl)]
          have c0 : w8.cell? ⟨s, 5, none⟩ = some (.int .i64 t) := hc.2.2.2.cell 5
          go_simp
          exact hK (.int .i64 t) _ rfl (Below.refl _ _)
        · refine fun w8 hc v13 h13 K hK => ?_
          obtain rfl : v13 = .bool true := h13
          (try simp only [Act.put, List.setIfInBounds_toArray, List.set_cons_zero, List.set_cons_succ])
          rw [if_pos (by rfl)]
          go_simp
          exact hK (.pointer (some ⟨p, 5, none⟩)) _ rfl (Below.refl _ _)
        · refine fun w8 hc v16 h16 v13 h13 K hK => ?_
          obtain rfl : v16 = .pointer (some ⟨p, 5, none⟩) := h16
          obtain rfl : v13 = .bool true := h13
          (try simp only [Act.put, List.setIfInBounds_toArray, List.set_cons_zero, List.set_cons_succ])
          rw [if_pos (by rfl)]
          have c0 : w8.cell? ⟨p, 5, none⟩ = some (.int .i64 t) := hc.2.1.cell 5
          go_simp
          exact hK (.int .i64 t) _ rfl (Below.refl _ _)
        · refine fun w8 hc v15 h15 v17 h17 v13 h13 K hK => ?_
          obtain rfl : v15 = .int .i64 t := h15
          obtain rfl : v17 = .int .i64 t := h17
          obtain rfl : v13 = .bool true := h13
          (try simp only [Act.put, List.setIfInBounds_toArray, List.set_cons_zero, List.set_cons_succ])
          rw [if_pos (by rfl)]
          go_simp
          exact hK (.bool true) _ rfl (Below.refl _ _)
        · refine fun w8 hc v13 h13 v18 h18 K hK => ?_
          obtain rfl : v13 = .bool true := h13
          obtain rfl : v18 = .bool true := h18
          (try simp only [Act.put, List.setIfInBounds_toArray, List.set_cons_zero, List.set_cons_succ])
          go_simp
          exact hK (.bool true) _ rfl (Below.refl _ _)
        · refine fun w8 hc v19 h19 K hK => ?_
          obtain rfl : v19 = .bool true := h19
          (try simp only [Act.put, List.setIfInBounds_toArray, List.set_cons_zero, List.set_cons_succ])
          go_simp
          exact hK (.bool true) _ rfl (Below.refl _ _)
        · refine fun w8 hc v20 h20 K hK => ?_
          obtain rfl : v20 = .bool true := h20
          (try simp only [Act.put, List.setIfInBounds_toArray, List.set_cons_zero, List.set_cons_succ])
          rw [if_pos (by rfl)]
          refine wp_load_bx 27 _ rfl (q) rfl 27 _ hc.2.2.1 Try.underlying27 rfl szB ?_
          exact hK _ _ rfl (Below.refl _ _)
        · refine fun w8 hc v21 h21 v20 h20 K hK => ?_
          obtain rfl : v21 = .agg #[.int .i64 a2, .int .i64 b2, .int .i64 c2, .int .i64 d2, .int .i64 x2, .int .i64 t2, .int .i64 j2, .int .i64 r2, .int .i64 n2] := h21
          obtain rfl : v20 = .bool true := h20
          (try simp only [Act.put, List.setIfInBounds_toArray, List.set_cons_zero, List.set_cons_succ])
          rw [if_pos (by rfl)]
          go_simp
          (with_reducible refine (implSu a2 b2 c2 d2 x2 t2 j2 r2 n2 _).mono ?_)
          rintro e w3 hp
          obtain ⟨rfl, hb⟩ := n_parts HS0.out hp
          exact hK _ _ rfl hb
        · refine fun w8 hc v22 h22 v20 h20 K hK => ?_
          obtain rfl : v22 = .int .i64 0 := h22
          obtain rfl : v20 = .bool true := h20
          (try simp only [Act.put, List.setIfInBounds_toArray, List.set_cons_zero, List.set_cons_succ])
          rw [if_pos (by rfl)]
          go_simp
          exact hK (.bool true) _ rfl (Below.refl _ _)
        · refine fun w8 hc v20 h20 v23 h23 K hK => ?_
          obtain rfl : v20 = .bool true := h20
          obtain rfl : v23 = .bool true := h23
          (try simp only [Act.put, List.setIfInBounds_toArray, List.set_cons_zero, List.set_cons_succ])
          go_simp
          exact hK (.bool true) _ rfl (Below.refl _ _)
        · refine fun w8 hc v24 h24 K hK => ?_
          obtain rfl : v24 = .bool true := h24
          (try simp only [Act.put, List.setIfInBounds_toArray, List.set_cons_zero, List.set_cons_succ])
          go_simp
          exact hK (.bool true) _ rfl (Below.refl _ _)
        refine fun w9 hc v0 h0 v1 h1 v2 h2 v3 h3 v4 h4 v5 h5 v6 h6 v7 h7 v8 h8 v9 h9 v10 h10 v11 h11 v12 h12 v13 h13 v14 h14 v15 h15 v16 h16 v17 h17 v18 h18 v19 h19 v20 h20 v21 h21 v22 h22 v23 h23 v24 h24 v25 h25 => ?_
        obtain rfl : v0 = .agg #[.int .i64 a2, .int .i64 b2, .int .i64 c2, .int .i64 d2, .int .i64 x2, .int .i64 t2, .int .i64 j2, .int .i64 r2, .int .i64 n2] := h0
        obtain rfl : v1 = .bool true := h1
        obtain rfl : v2 = .bool true := h2
        obtain rfl : v3 = .agg #[.int .i64 a, .int .i64 b, .int .i64 c, .int .i64 d, .int .i64 x, .int .i64 t, .int .i64 0, .int .i64 r, .int .i64 n] := h3
        obtain rfl : v4 = .int .i64 g := h4
        obtain rfl : v5 = .pointer (some ⟨p, 0, none⟩) := h5
        obtain rfl : v6 = .pointer (some ⟨p, 0, none⟩) := h6
        obtain rfl : v7 = .int .i64 a := h7
        obtain rfl : v8 = .pointer (some ⟨p, 5, none⟩) := h8
        obtain rfl : v9 = .int .i64 t := h9
        obtain rfl : v10 = .int .i64 g := h10
        obtain rfl : v11 = .bool true := h11
        obtain rfl : v12 = .bool true := h12
        obtain rfl : v13 = .bool true := h13
        obtain rfl : v14 = .pointer (some ⟨s, 5, none⟩) := h14
        obtain rfl : v15 = .int .i64 t := h15
        obtain rfl : v16 = .pointer (some ⟨p, 5, none⟩) := h16
        obtain rfl : v17 = .int .i64 t := h17
        obtain rfl : v18 = .bool true := h18
        obtain rfl : v19 = .bool true := h19
        obtain rfl : v20 = .bool true := h20
        obtain rfl : v21 = .agg #[.int .i64 a2, .int .i64 b2, .int .i64 c2, .int .i64 d2, .int .i64 x2, .int .i64 t2, .int .i64 j2, .int .i64 r2, .int .i64 n2] := h21
        obtain rfl : v22 = .int .i64 0 := h22
        obtain rfl : v23 = .bool true := h23
        obtain rfl : v24 = .bool true := h24
        obtain rfl : v25 = .bool true := h25
        (try simp only [reg.Obs])
        (try simp only [Act.put, List.setIfInBounds_toArray, List.set_cons_zero, List.set_cons_succ])
        have B23 := Lib.hid hc.1
        have X23 := Lib.hid hc.2.1
        have Y23 := Lib.hid hc.2.2.1
        have W23 := Lib.hid hc.2.2.2
        clear hc B22 X22 Y22 W22
        go_wp2_with fail
        go_ret
        exact ⟨rfl, B23.out⟩
  | false =>
    obtain rfl : m = -1 := by rw [← HM.out]; exact slo_no HV.out
    have HT := Lib.hid (tik_no (y := false) HV.out)
    have HR := Lib.hid (rdy_no HV.out)
    go_wp2_with fail
    refine reg.region_plain reg.Bel 72 [some [], some [(0, 17)], some [(1, 18)], some [(2, 19)], some [(3, 20), (2, 19)], some [(2, 19)], some [(4, 21), (5, 22), (2, 19)], some [(2, 19), (6, 23)], some [(7, 24)], some [(8, 25)], some [(9, 26), (8, 25)], some [(10, 27), (8, 25)], some [(8, 25), (11, 28)], some [(12, 29)]] [(0, 17), (1, 18), (2, 19), (3, 20), (4, 21), (5, 22), (6, 23), (7, 24), (8, 25), (9, 26), (10, 27), (11, 28), (12, 29), (13, 2)]
      (fun w' => Below w.heap.size w w' ∧ Bx 27 w' (p) #[.int .i64 a, .int .i64 b, .int .i64 c, .int .i64 d, .int .i64 x, .int .i64 t, .int .i64 j, .int .i64 r, .int .i64 n])
      (reg.rl [reg.is (.int .i64 (-1)), reg.is (.bool true), reg.is (.bool true), reg.is (.agg #[.int .i64 a, .int .i64 b, .int .i64 c, .int .i64 d, .int .i64 x, .int .i64 t, .int .i64 j, .int .i64 r, .int .i64 n]), reg.is (.agg #[.int .i64 a, .int .i64 b, .int .i64 c, .int .i64 d, .int .i64 x, .int .i64 t, .int .i64 j, .int .i64 r, .int .i64 n]), reg.is (.agg #[.int .i64 a, .int .i64 b, .int .i64 c, .int .i64 d, .int .i64 x, .int .i64 t, .int .i64 j, .int .i64 r, .int .i64 n]), reg.is (.bool true), reg.is (.bool true), reg.is (.bool true), reg.is (.agg #[.int .i64 a, .int .i64 b, .int .i64 c, .int .i64 d, .int .i64 x, .int .i64 t, .int .i64 j, .int .i64 r, .int .i64 n]), reg.is (.bool false), reg.is (.bool true), reg.is (.bool true), reg.is (.bool true)])
      (by kernel_rfl) (by kernel_rfl) rfl
      (fun w1 w2 hc hb => ⟨hc.1.trans (hb.mono hc.1.size), hc.2.below hb⟩) (reg.rl_keep _) (⟨own.below_drew B4.out, X4.out.same rfl⟩) (by kernel_rfl) ⟨?_, ?_, ?_, ?_, ?_, ?_, ?_, ?_, ?_, ?_, ?_, ?_, ?_, ?_, trivial⟩ ?_
    · refine fun w8 hc  K hK => ?_
      (try simp only [Act.put, List.setIfInBounds_toArray, List.set_cons_zero, List.set_cons_succ])
      go_simp
      exact hK (.int .i64 (-1)) _ rfl (Below.refl _ _)
    · refine fun w8 hc v0 h0 K hK => ?_
      obtain rfl : v0 = .int .i64 (-1) := h0
      (try simp only [Act.put, List.setIfInBounds_toArray, List.set_cons_zero, List.set_cons_succ])
      go_simp
      exact hK (.bool true) _ rfl (Below.refl _ _)
    · refine fun w8 hc v1 h1 K hK => ?_
      obtain rfl : v1 = .bool true := h1
      (try simp only [Act.put, List.setIfInBounds_toArray, List.set_cons_zero, List.set_cons_succ])
      go_simp
      exact hK (.bool true) _ rfl (Below.refl _ _)
    · refine fun w8 hc v2 h2 K hK => ?_
      obtain rfl : v2 = .bool true := h2
      (try simp only [Act.put, List.setIfInBounds_toArray, List.set_cons_zero, List.set_cons_succ])
      rw [if_pos (by rfl)]
      refine wp_load_bx 27 _ rfl (p) rfl 27 _ hc.2 Try.underlying27 rfl szB ?_
      exact hK _ _ rfl (Below.refl _ _)
    · refine fun w8 hc v3 h3 v2 h2 K hK => ?_
      obtain rfl : v3 = .agg #[.int .i64 a, .int .i64 b, .int .i64 c, .int .i64 d, .int .i64 x, .int .i64 t, .int .i64 j, .int .i64 r, .int .i64 n] := h3
      obtain rfl : v2 = .bool true := h2
      (try simp only [Act.put, List.setIfInBounds_toArray, List.set_cons_zero, List.set_cons_succ])
      rw [if_pos (by rfl)]
      go_simp
      (with_reducible refine (implTi a b c d x t j r n false _).mono ?_)
      rintro e w3 hp
      obtain ⟨rfl, hb⟩ := o_parts HT.out hp
      exact hK _ _ rfl hb
    · refine fun w8 hc v2 h2 K hK => ?_
      obtain rfl : v2 = .bool true := h2
      (try simp only [Act.put, List.setIfInBounds_toArray, List.set_cons_zero, List.set_cons_succ])
      rw [if_pos (by rfl)]
      refine wp_load_bx 27 _ rfl (p) rfl 27 _ hc.2 Try.underlying27 rfl szB ?_
      exact hK _ _ rfl (Below.refl _ _)
    · refine fun w8 hc v4 h4 v5 h5 v2 h2 K hK => ?_
      obtain rfl : v4 = .agg #[.int .i64 a, .int .i64 b, .int .i64 c, .int .i64 d, .int .i64 x, .int .i64 t, .int .i64 j, .int .i64 r, .int .i64 n] := h4
      obtain rfl : v5 = .agg #[.int .i64 a, .int .i64 b, .int .i64 c, .int .i64 d, .int .i64 x, .int .i64 t, .int .i64 j, .int .i64 r, .int .i64 n] := h5
      obtain rfl : v2 = .bool true := h2
      (try simp only [Act.put, List.setIfInBounds_toArray, List.set_cons_zero, List.set_cons_succ])
      rw [if_pos (by rfl)]
      go_simp
      exact hK (.bool true) _ rfl (Below.refl _ _)
    · refine fun w8 hc v2 h2 v6 h6 K hK => ?_
      obtain rfl : v2 = .bool true := h2
      obtain rfl : v6 = .bool true := h6
      (try simp only [Act.put, List.setIfInBounds_toArray, List.set_cons_zero, List.set_cons_succ])
      go_simp
      exact hK (.bool true) _ rfl (Below.refl _ _)
    · refine fun w8 hc v7 h7 K hK => ?_
      obtain rfl : v7 = .bool true := h7
      (try simp only [Act.put, List.setIfInBounds_toArray, List.set_cons_zero, List.set_cons_succ])
      go_simp
      exact hK (.bool true) _ rfl (Below.refl _ _)
    · refine fun w8 hc v8 h8 K hK => ?_
      obtain rfl : v8 = .bool true := h8
      (try simp only [Act.put, List.setIfInBounds_toArray, List.set_cons_zero, List.set_cons_succ])
      rw [if_pos (by rfl)]
      refine wp_load_bx 27 _ rfl (p) rfl 27 _ hc.2 Try.underlying27 rfl szB ?_
      exact hK _ _ rfl (Below.refl _ _)
    · refine fun w8 hc v9 h9 v8 h8 K hK => ?_
      obtain rfl : v9 = .agg #[.int .i64 a, .int .i64 b, .int .i64 c, .int .i64 d, .int .i64 x, .int .i64 t, .int .i64 j, .int .i64 r, .int .i64 n] := h9
      obtain rfl : v8 = .bool true := h8
      (try simp only [Act.put, List.setIfInBounds_toArray, List.set_cons_zero, List.set_cons_succ])
      rw [if_pos (by rfl)]
      go_simp
      (with_reducible refine (implRy a b c d x t j r n _).mono ?_)
      rintro e w3 hp
      obtain ⟨rfl, hb⟩ := b_parts HR.out hp
      exact hK _ _ rfl hb
    · refine fun w8 hc v10 h10 v8 h8 K hK => ?_
      obtain rfl : v10 = .bool false := h10
      obtain rfl : v8 = .bool true := h8
      (try simp only [Act.put, List.setIfInBounds_toArray, List.set_cons_zero, List.set_cons_succ])
      rw [if_pos (by rfl)]
      go_simp
      exact hK (.bool true) _ rfl (Below.refl _ _)
    · refine fun w8 hc v8 h8 v11 h11 K hK => ?_
      obtain rfl : v8 = .bool true := h8
      obtain rfl : v11 = .bool true := h11
      (try simp only [Act.put, List.setIfInBounds_toArray, List.set_cons_zero, List.set_cons_succ])
      go_simp
      exact hK (.bool true) _ rfl (Below.refl _ _)
    · refine fun w8 hc v12 h12 K hK => ?_
      obtain rfl : v12 = .bool true := h12
      (try simp only [Act.put, List.setIfInBounds_toArray, List.set_cons_zero, List.set_cons_succ])
      go_simp
      exact hK (.bool true) _ rfl (Below.refl _ _)
    refine fun w9 hc v0 h0 v1 h1 v2 h2 v3 h3 v4 h4 v5 h5 v6 h6 v7 h7 v8 h8 v9 h9 v10 h10 v11 h11 v12 h12 v13 h13 => ?_
    obtain rfl : v0 = .int .i64 (-1) := h0
    obtain rfl : v1 = .bool true := h1
    obtain rfl : v2 = .bool true := h2
    obtain rfl : v3 = .agg #[.int .i64 a, .int .i64 b, .int .i64 c, .int .i64 d, .int .i64 x, .int .i64 t, .int .i64 j, .int .i64 r, .int .i64 n] := h3
    obtain rfl : v4 = .agg #[.int .i64 a, .int .i64 b, .int .i64 c, .int .i64 d, .int .i64 x, .int .i64 t, .int .i64 j, .int .i64 r, .int .i64 n] := h4
    obtain rfl : v5 = .agg #[.int .i64 a, .int .i64 b, .int .i64 c, .int .i64 d, .int .i64 x, .int .i64 t, .int .i64 j, .int .i64 r, .int .i64 n] := h5
    obtain rfl : v6 = .bool true := h6
    obtain rfl : v7 = .bool true := h7
    obtain rfl : v8 = .bool true := h8
    obtain rfl : v9 = .agg #[.int .i64 a, .int .i64 b, .int .i64 c, .int .i64 d, .int .i64 x, .int .i64 t, .int .i64 j, .int .i64 r, .int .i64 n] := h9
    obtain rfl : v10 = .bool false := h10
    obtain rfl : v11 = .bool true := h11
    obtain rfl : v12 = .bool true := h12
    obtain rfl : v13 = .bool true := h13
    (try simp only [reg.Obs])
    (try simp only [Act.put, List.setIfInBounds_toArray, List.set_cons_zero, List.set_cons_succ])
    have B5 := Lib.hid hc.1
    have X5 := Lib.hid hc.2
    clear hc B4 X4
    go_wp2_with fail
    go_ret
    exact ⟨rfl, B5.out⟩
end Go.Proofs.Ytkfkfejjhfkobaa.cntLaw
