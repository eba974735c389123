/- Given up frames, the specification. Condition: none. -/
import Derived.Test.YthbmnhbnoipdfaaBs5
namespace Go.Proofs.Ythbmnhbnoipdfaa.bs
open Go.RowKit sl harn rng bx stw
set_option linter.unusedVariables false
set_option linter.unusedSimpArgs false

theorem giv_at {q : Bs} {x : Int} (h : x ∈ outs q) : ∃ W m i, V q W m ∧ i < W ∧ sqd q.st x = (i : Int) ∧ giv q x = aft q (m ||| 2 ^ i) ∧ m ||| 2 ^ i < 65536 := by
  obtain ⟨W, m, hV⟩ := vs_of (outs_vs h)
  have h2 := h
  rw [hV.outs, List.mem_map] at h2
  obtain ⟨i, hi, he⟩ := h2
  have hi2 := mem_ou.1 hi
  have hw := hV.hw
  have hmk : mks q (fun y => y == x) = m ||| 2 ^ i := by
    rw [hV.mk']
    refine setl_one hi2.1 fun j hj => ?_
    rw [beq_iff_eq]
    constructor
    · intro e
      exact fr_inj (by omega) (by omega) (e.trans he.symm)
    · intro e
      rw [e]; exact he
  have h3 : 2 ^ W ≤ 2 ^ 16 := Nat.pow_le_pow_right (by omega) hw
  refine ⟨W, m, i, hV, hi2.1, by rw [← he]; exact sqd_fr hV.hs (by omega), by unfold giv; rw [if_pos h, hmk], ?_⟩
  have h4 := mks_lt hV (fun y => y == x)
  rw [hmk] at h4
  omega
theorem giv_no {q : Bs} {x : Int} (h : ¬ x ∈ outs q) : giv q x = q := by unfold giv; rw [if_neg h]
set_option maxRecDepth 100000 in
set_option maxHeartbeats 4000000 in
theorem specGiv (s n a : Int) (x : Int) (w : World) :
    Calls Try.prog 35 #[.agg #[.int .i64 s, .int .i64 n, .int .i64 a], .int .i64 x] w (SPost (giv ⟨s, n, a⟩ x) w) := by
  obtain ⟨l, hl⟩ : ∃ l, outs ⟨s, n, a⟩ = l := ⟨_, rfl⟩
  have HL := Lib.hid hl
  clear hl
  go_enter Try.func35, Try.ntmps35
  go_wp2_with fail
  obtain ⟨w0, hW⟩ : ∃ w0, (w.alloc (.cells #[.int .i64 s, .int .i64 n, .int .i64 a] 25)).alloc (.cells #[.int .i64 0, .int .i64 0, .int .i64 0] 25) = w0 := ⟨_, rfl⟩
  rw [hW]
  have B0 := Lib.hid (show Below w.heap.size w w0 by rw [← hW]; exact ((Below.refl _ _).alloc (by simp <;> omega) _).alloc (by simp <;> omega) _)
  have X0 := Lib.hid (show Bx 25 w0 (w.heap.size) #[.int .i64 s, .int .i64 n, .int .i64 a] by
      rw [← hW]
      have hh := Bx.made 25 w #[.int .i64 s, .int .i64 n, .int .i64 a]
      exact (hh.below (below_box _ _)))
  have Z0 := Lib.hid (show Bx 25 w0 (w.heap.size + 1) #[.int .i64 0, .int .i64 0, .int .i64 0] by
      rw [← hW]
      have hh : Bx 25 ((w.alloc (.cells #[.int .i64 s, .int .i64 n, .int .i64 a] 25)).alloc (.cells #[.int .i64 0, .int .i64 0, .int .i64 0] 25)) (w.heap.size + 1) #[.int .i64 0, .int .i64 0, .int .i64 0] := by have hh := Bx.made 25 (w.alloc (.cells #[.int .i64 s, .int .i64 n, .int .i64 a] 25)) #[.int .i64 0, .int .i64 0, .int .i64 0]; simpa using hh
      exact hh)
  clear hW
  have LTX := Lib.hid X0.out.lt
  have LTZ := Lib.hid Z0.out.lt
  go_wp2_with (refine stw.list_load rfl 25 _ rfl (w.heap.size) rfl 25 _ X0.out Try.underlying25 rfl szS ?_)
  (with_reducible refine (specOs s n a _).mono ?_)
  rintro e w1 ⟨A1, q, c1, rfl, ho, hb⟩
  rw [HL.out] at ho
  have HQL := Lib.hid ho.len
  have HQ16 := Lib.hid (show q ≤ 16 by rw [← HQL.out, ← HL.out]; exact outs_len _)
  have SS1 := Lib.hid hb.size
  have B1 := Lib.hid (B0.out.trans (hb.mono B0.out.size))
  have X1 := Lib.hid (X0.out.below hb)
  have Z1 := Lib.hid (Z0.out.below hb)
  clear hb B0 X0 Z0
  have L1 := Lib.hid ho
  clear ho
  go_wp2_with fail
  go_loopw [6] (fun v0 wr => ∃ (j : Nat), v0 = .int .i64 (j : Int) ∧ (j ≤ q) ∧ (∀ i, i < j → l.getD i 0 ≠ x) ∧ Below w.heap.size w wr ∧ Bx 25 wr w.heap.size #[.int .i64 s, .int .i64 n, .int .i64 a] ∧ Bx 25 wr (w.heap.size + 1) #[.int .i64 0, .int .i64 0, .int .i64 0] ∧ Ow 3 .i64 wr (w0.heap.size) (w1.heap.size) A1 q c1 l) ((fun i _ => q - (intOf i).toNat))
  case atStart => exact ⟨0, rfl, by omega, fun i hi => absurd hi (by omega), B1.out, X1.out, Z1.out, L1.out⟩
  case round =>
    obtain ⟨j, rfl, ghj, ghn, gB2, gX2, gZ2, gL2⟩ := hrel
    have B2 := Lib.hid gB2
    have X2 := Lib.hid gX2
    have Z2 := Lib.hid gZ2
    have L2 := Lib.hid gL2
    have hj := Lib.hid ghj
    have hn := Lib.hid ghn
    clear gB2 gX2 gZ2 gL2 ghj ghn
    have LUX2 := Lib.hid X2.out.lt
    have LUZ2 := Lib.hid Z2.out.lt
    have SBR2 := Lib.hid B2.out.size
    have hj := hj.out
    have hq16 : q ≤ 16 := HQ16.out
    by_cases hlt : j < q
    · have hlt2 : (j : Int) < q := by omega
      obtain ⟨g, rfl, hgl⟩ := own.own_some L2.out (by omega)
      clear hgl
      obtain ⟨y, hy⟩ : ∃ y, l.getD j 0 = y := ⟨_, rfl⟩
      have HY := Lib.hid hy
      clear hy
      have cL : wr.cell? ⟨g, j, none⟩ = some (.int .i64 y) := by rw [← HY.out]; exact own.cell_of L2.out hlt
      by_cases he : y = x
      · subst he
        have hm : y ∈ outs ⟨s, n, a⟩ := by rw [HL.out, ← HY.out]; exact rfm.mem_getD (by rw [HQL.out]; exact hlt)
        obtain ⟨W, m, i, hV, hiW, hsi, hg, hlt6⟩ := giv_at hm
        obtain rfl : a = (m : Int) := hV.ha
        have HSI := Lib.hid (show sqd s y = (i : Int) from hsi)
        have HS := Lib.hid (show 0 ≤ s ∧ s ≤ 4095 from hV.hs)
        have HG := Lib.hid hg
        have HM := Lib.hid hlt6
        have HI16 := Lib.hid (show (i : Int) ≤ 15 ∧ i < 16 ∧ m < 65536 by have h1 := hV.hw; have h2 := hV.hb; have h3 : 2 ^ W ≤ 2 ^ 16 := Nat.pow_le_pow_right (by omega) h1; omega)
        clear hV hiW hsi hg hlt6 hm
        go_upto_region 6 with fail
        clear cL
        obtain ⟨bo, hbb⟩ : ∃ b, wr.heap.size = b := ⟨_, rfl⟩
        go_upto_region 7 with (refine stw.list_load rfl 25 _ rfl (w.heap.size) rfl 25 _ X2.out Try.underlying25 rfl szS ?_)
        generalize hW : wr.alloc (.cells #[.int .i64 s, .int .i64 n, .int .i64 (m : Int)] 25) = w3
        have LO := Lib.hid (show w.heap.size ≤ bo ∧ w.heap.size < bo ∧ w.heap.size + 1 < bo ∧ w1.heap.size ≤ bo by have h1 := B2.out.size; have h2X := X2.out.lt; have h2Z := Z2.out.lt; have h2L := L2.out.hi_; have h3 := hbb; omega)
        have O3 := Lib.hid (show Bx 25 w3 bo #[.int .i64 s, .int .i64 n, .int .i64 (m : Int)] by rw [← hW, ← hbb]; exact Bx.made _ _ _)
        have hb : Below wr.heap.size wr w3 := by rw [← hW]; exact below_box _ _
        (try rw [hbb])
        clear hW hbb
        have SS3 := Lib.hid hb.size
        have B3 := Lib.hid (B2.out.trans (hb.mono B2.out.size))
        have X3 := Lib.hid (X2.out.below hb)
        have Z3 := Lib.hid (Z2.out.below hb)
        have L3 := Lib.hid (L2.out.below hb)
        clear hb B2 X2 Z2 L2
        have LWO := Lib.hid O3.out.lt
        obtain ⟨p, hp⟩ : ∃ p, wrap64 (2 ^ i) = p := ⟨_, rfl⟩
        have hp2 : IntKind.i64.wrap (2 ^ i) = p := (wrap_64 _).trans hp
        obtain ⟨M2, hM2⟩ : ∃ x, m ||| 2 ^ i = x := ⟨_, rfl⟩
        have hor : bits .or .i64 (m : Int) p = (M2 : Int) := by rw [← hp, ← hM2]; exact or_pow HI16.out.2.2 HI16.out.2.1
        have hi64 : (i : Int) ≤ 64 := by have := HI16.out; omega
        rw [hM2] at HG HM
        clear hM2
        refine reg.region_tail reg.Bel 9 35 [some [], some [(0, 23)], some [], some [(2, 25)], some [], some [(3, 26), (4, 27)], some [(5, 28)], some [(1, 24), (6, 29)], some [], none] [(0, 23), (1, 24), (2, 25), (3, 26), (4, 27), (5, 28), (6, 29), (7, 30), (8, 31)]
          (fun w' => Below w.heap.size w w' ∧ Bx 25 w' (w.heap.size) #[.int .i64 s, .int .i64 n, .int .i64 (m : Int)] ∧ Bx 25 w' (w.heap.size + 1) #[.int .i64 0, .int .i64 0, .int .i64 0] ∧ Bx 25 w' (bo) #[.int .i64 s, .int .i64 n, .int .i64 (m : Int)] ∧ Ow 3 .i64 w' (w0.heap.size) (w1.heap.size) (some ⟨g, 0, none⟩) q c1 l ∧ True)
          (reg.rl [reg.is (.pointer (some ⟨w.heap.size, 2, none⟩)), reg.is (.int .i64 (m : Int)), reg.is (.pointer (some ⟨w.heap.size, 0, none⟩)), reg.is (.int .i64 s), reg.is (.int .i64 y), reg.is (.int .i64 ((i : Int))), reg.is (.int .i64 p), reg.is (.int .i64 (M2 : Int)), reg.is (.pointer (some ⟨bo, 2, none⟩)), reg.free])
          (by kernel_rfl) rfl (by kernel_rfl) (by kernel_rfl) rfl
          (fun w1 w2 hc hb => ⟨hc.1.trans (hb.mono hc.1.size), hc.2.1.below hb, hc.2.2.1.below hb, hc.2.2.2.1.below hb, hc.2.2.2.2.1.below hb, trivial⟩) (reg.rl_keep _) (⟨own.below_drew B3.out, X3.out.same rfl, Z3.out.same rfl, O3.out.same rfl, own.ow_drew L3.out, trivial⟩) (by kernel_rfl) ⟨?_, ?_, ?_, ?_, ?_, ?_, ?_, ?_, ?_, trivial⟩ ?_
        · refine fun w8 hc  K hK => ?_
          (try simp only [Act.put, List.setIfInBounds_toArray, List.set_cons_zero, List.set_cons_succ])
          go_simp
          exact hK (.pointer (some ⟨w.heap.size, 2, none⟩)) _ rfl (Below.refl _ _)
        · refine fun w8 hc v0 h0 K hK => ?_
          obtain rfl : v0 = .pointer (some ⟨w.heap.size, 2, none⟩) := h0
          (try simp only [Act.put, List.setIfInBounds_toArray, List.set_cons_zero, List.set_cons_succ])
          have c0 : w8.cell? ⟨w.heap.size, 2, none⟩ = some (.int .i64 (m : Int)) := hc.2.1.cell 2
          go_simp
          exact hK (.int .i64 (m : Int)) _ rfl (Below.refl _ _)
        · refine fun w8 hc  K hK => ?_
          (try simp only [Act.put, List.setIfInBounds_toArray, List.set_cons_zero, List.set_cons_succ])
          go_simp
          exact hK (.pointer (some ⟨w.heap.size, 0, none⟩)) _ rfl (Below.refl _ _)
        · refine fun w8 hc v2 h2 K hK => ?_
          obtain rfl : v2 = .pointer (some ⟨w.heap.size, 0, none⟩) := h2
          (try simp only [Act.put, List.setIfInBounds_toArray, List.set_cons_zero, List.set_cons_succ])
          have c0 : w8.cell? ⟨w.heap.size, 0, none⟩ = some (.int .i64 s) := hc.2.1.cell 0
          go_simp
          exact hK (.int .i64 s) _ rfl (Below.refl _ _)
        · refine fun w8 hc  K hK => ?_
          (try simp only [Act.put, List.setIfInBounds_toArray, List.set_cons_zero, List.set_cons_succ])
          go_simp
          exact hK (.int .i64 y) _ rfl (Below.refl _ _)
        · refine fun w8 hc v3 h3 v4 h4 K hK => ?_
          obtain rfl : v3 = .int .i64 s := h3
          obtain rfl : v4 = .int .i64 y := h4
          (try simp only [Act.put, List.setIfInBounds_toArray, List.set_cons_zero, List.set_cons_succ])
          go_simp
          (with_reducible refine (specSdE s y (i : Int) HSI.out _).mono ?_)
          rintro e w3 ⟨rfl, rfl⟩
          exact hK _ _ rfl (Below.refl _ _)
        · refine fun w8 hc v5 h5 K hK => ?_
          obtain rfl : v5 = .int .i64 ((i : Int)) := h5
          (try simp only [Act.put, List.setIfInBounds_toArray, List.set_cons_zero, List.set_cons_succ])
          go_simp
          (try simp only [hp, hp2])
          exact hK (.int .i64 p) _ rfl (Below.refl _ _)
        · refine fun w8 hc v1 h1 v6 h6 K hK => ?_
          obtain rfl : v1 = .int .i64 (m : Int) := h1
          obtain rfl : v6 = .int .i64 p := h6
          (try simp only [Act.put, List.setIfInBounds_toArray, List.set_cons_zero, List.set_cons_succ])
          go_simp
          (try simp only [hor])
          exact hK (.int .i64 (M2 : Int)) _ rfl (Below.refl _ _)
        · refine fun w8 hc  K hK => ?_
          (try simp only [Act.put, List.setIfInBounds_toArray, List.set_cons_zero, List.set_cons_succ])
          go_simp
          exact hK (.pointer (some ⟨bo, 2, none⟩)) _ rfl (Below.refl _ _)
        refine fun wg4 hc v0 h0 v1 h1 v2 h2 v3 h3 v4 h4 v5 h5 v6 h6 v7 h7 v8 h8 => ?_
        obtain rfl : v0 = .pointer (some ⟨w.heap.size, 2, none⟩) := h0
        obtain rfl : v1 = .int .i64 (m : Int) := h1
        obtain rfl : v2 = .pointer (some ⟨w.heap.size, 0, none⟩) := h2
        obtain rfl : v3 = .int .i64 s := h3
        obtain rfl : v4 = .int .i64 y := h4
        obtain rfl : v5 = .int .i64 ((i : Int)) := h5
        obtain rfl : v6 = .int .i64 p := h6
        obtain rfl : v7 = .int .i64 (M2 : Int) := h7
        obtain rfl : v8 = .pointer (some ⟨bo, 2, none⟩) := h8
        (try simp only [reg.Obs])
        (try simp only [Act.put, List.setIfInBounds_toArray, List.set_cons_zero, List.set_cons_succ])
        simp only [List.drop_succ_cons, List.drop_zero]
        have B4 := Lib.hid hc.1
        have X4 := Lib.hid hc.2.1
        have Z4 := Lib.hid hc.2.2.1
        have O4 := Lib.hid hc.2.2.2.1
        have L4 := Lib.hid hc.2.2.2.2.1
        clear hc B3 X3 Z3 O3 L3
        obtain ⟨⟨x0, x1, x2⟩, hx⟩ : ∃ q, (⟨(adv s M2).1, n, ((adv s M2).2 : Int)⟩ : Bs) = q := ⟨_, rfl⟩
        have HX := Lib.hid hx
        have HE9 := Lib.hid (show giv ⟨s, n, (m : Int)⟩ y = ⟨x0, x1, x2⟩ by rw [HG.out]; exact hx)
        clear hx HG
        have cO2 : wg4.cell? ⟨bo, 2, none⟩ = some (.int .i64 (m : Int)) := O4.out.cell 2
        have fO2 : wg4.frozen? ⟨bo, 2, none⟩ = false := O4.out.free 2
        go_upto_region 8 with fail
        clear cO2 fO2
        have hWW : (wg4.setCell ⟨bo, 2, none⟩ (.int .i64 (M2 : Int))) = (wg4.setCell ⟨bo, 2, none⟩ (.int .i64 (M2 : Int))) := rfl
        obtain ⟨w5, hW⟩ : ∃ wy, (wg4.setCell ⟨bo, 2, none⟩ (.int .i64 (M2 : Int))) = wy := ⟨_, rfl⟩
        rw [hW]
        clear hWW
        have B5 := Lib.hid (show Below w.heap.size w w5 by rw [← hW]; exact (B4.out.setCell (p := ⟨bo, 2, none⟩) (by have hlO := LO.out; have hs0 := LTX.out; have hs1 := LTZ.out; have hs2 := SS1.out; have hs3 := LUX2.out; have hs4 := LUZ2.out; have hs5 := SBR2.out; have hs6 := SS3.out; have hs7 := LWO.out; first | omega | (simp <;> omega)) _))
        have X5 := Lib.hid (show Bx 25 w5 (w.heap.size) #[.int .i64 s, .int .i64 n, .int .i64 (m : Int)] by rw [← hW]; exact (X4.out.other (by have hlO := LO.out; have hs0 := LTX.out; have hs1 := LTZ.out; have hs2 := SS1.out; have hs3 := LUX2.out; have hs4 := LUZ2.out; have hs5 := SBR2.out; have hs6 := SS3.out; have hs7 := LWO.out; first | omega | (simp <;> omega)) _ _))
        have Z5 := Lib.hid (show Bx 25 w5 (w.heap.size + 1) #[.int .i64 0, .int .i64 0, .int .i64 0] by rw [← hW]; exact (Z4.out.other (by have hlO := LO.out; have hs0 := LTX.out; have hs1 := LTZ.out; have hs2 := SS1.out; have hs3 := LUX2.out; have hs4 := LUZ2.out; have hs5 := SBR2.out; have hs6 := SS3.out; have hs7 := LWO.out; first | omega | (simp <;> omega)) _ _))
        have O5 := Lib.hid (show Bx 25 w5 (bo) #[.int .i64 s, .int .i64 n, .int .i64 (M2 : Int)] by rw [← hW]; exact (O4.out.set 2 _))
        have L5 := Lib.hid (show Ow 3 .i64 w5 (w0.heap.size) (w1.heap.size) (some ⟨g, 0, none⟩) q c1 l by rw [← hW]; exact (L4.out.same (by simp [World.setCell]) fun b h1 h2 => by rw [Below.heap_setCell _ _ _ _ (by have hlO := LO.out; have hs0 := LTX.out; have hs1 := LTZ.out; have hs2 := SS1.out; have hs3 := LUX2.out; have hs4 := LUZ2.out; have hs5 := SBR2.out; have hs6 := SS3.out; have hs7 := LWO.out; first | omega | (simp <;> omega))]))
        clear hW B4 X4 Z4 O4 L4
        go_wp2_with (refine stw.list_load rfl 25 _ rfl (bo) rfl 25 _ O5.out Try.underlying25 rfl szS ?_)
        (with_reducible refine (specAdv s n M2 HS.out HM.out _).mono ?_)
        rintro e w6 hp
        obtain ⟨rfl, hb⟩ := s_parts HX.out hp
        clear hp
        have SS6 := Lib.hid hb.size
        have B6 := Lib.hid (B5.out.trans (hb.mono B5.out.size))
        have X6 := Lib.hid (X5.out.below hb)
        have Z6 := Lib.hid (Z5.out.below hb)
        have O6 := Lib.hid (O5.out.below hb)
        have L6 := Lib.hid (L5.out.below hb)
        clear hb  B5 X5 Z5 O5 L5
        go_wp2_with (first | (refine stw.list_store rfl 25 _ _ rfl (w.heap.size + 1) #[.int .i64 x0, .int .i64 x1, .int .i64 x2] rfl rfl 25 _ Z6.out rfl szS (oneS _ _ _) ?_; intro wz7 hz))
        have B7 := Lib.hid (hz.on B6.out (by have hlO := LO.out; have hs0 := LTX.out; have hs1 := LTZ.out; have hs2 := SS1.out; have hs3 := LUX2.out; have hs4 := LUZ2.out; have hs5 := SBR2.out; have hs6 := SS3.out; have hs7 := LWO.out; have hs8 := SS6.out; first | omega | (simp <;> omega)))
        have X7 := Lib.hid (hz.keep X6.out (by have hlO := LO.out; have hs0 := LTX.out; have hs1 := LTZ.out; have hs2 := SS1.out; have hs3 := LUX2.out; have hs4 := LUZ2.out; have hs5 := SBR2.out; have hs6 := SS3.out; have hs7 := LWO.out; have hs8 := SS6.out; first | omega | (simp <;> omega)))
        have Z7 := Lib.hid (hz.box)
        have O7 := Lib.hid (hz.keep O6.out (by have hlO := LO.out; have hs0 := LTX.out; have hs1 := LTZ.out; have hs2 := SS1.out; have hs3 := LUX2.out; have hs4 := LUZ2.out; have hs5 := SBR2.out; have hs6 := SS3.out; have hs7 := LWO.out; have hs8 := SS6.out; first | omega | (simp <;> omega)))
        have L7 := Lib.hid (L6.out.same hz.below.size fun b h1 h2 => hz.other b (by have hlO := LO.out; have hs0 := LTX.out; have hs1 := LTZ.out; have hs2 := SS1.out; have hs3 := LUX2.out; have hs4 := LUZ2.out; have hs5 := SBR2.out; have hs6 := SS3.out; have hs7 := LWO.out; have hs8 := SS6.out; first | omega | (simp <;> omega)))
        clear hz B6 X6 Z6 O6 L6
        (try simp only [Exit.inBlock, Exit.then])
        refine bodyPost_ret (v := .agg #[.int .i64 x0, .int .i64 x1, .int .i64 x2]) ?_ rfl ?_
        · rw [results_cell1 rfl]
          exact stw.back Z7.out Try.underlying25 rfl szS
        · exact ⟨by rw [HE9.out], B7.out⟩
      · have he1 : (y == x) = false := by simpa using he
        have HNE := Lib.hid he
        clear he
        go_wp2_with fail
        go_roundw
        case rel => exact ⟨j + 1, by go_num, by omega, bx.none_yet hn.out HY.out HNE.out, B2.out, X2.out, Z2.out, L2.out⟩
        case measure => simp [intOf]; omega
    · have hlt2 : ¬ (j : Int) < q := by omega
      obtain rfl : j = q := by omega
      have HE := Lib.hid (show giv ⟨s, n, a⟩ x = ⟨s, n, a⟩ from giv_no (by rw [HL.out]; intro hm; obtain ⟨i, hi, he⟩ := rfm.ex_getD hm; exact hn.out i (by rw [← HQL.out]; exact hi) he))
      go_wp2_with (first | (refine stw.list_load rfl 25 _ rfl (w.heap.size) rfl 25 _ X2.out Try.underlying25 rfl szS ?_) | (refine stw.list_store rfl 25 _ _ rfl (w.heap.size + 1) #[.int .i64 s, .int .i64 n, .int .i64 a] rfl rfl 25 _ Z2.out rfl szS (oneS _ _ _) ?_; intro wz3 hz))
      have B3 := Lib.hid (hz.on B2.out (by have hs0 := LTX.out; have hs1 := LTZ.out; have hs2 := SS1.out; have hs3 := LUX2.out; have hs4 := LUZ2.out; have hs5 := SBR2.out; first | omega | (simp <;> omega)))
      have X3 := Lib.hid (hz.keep X2.out (by have hs0 := LTX.out; have hs1 := LTZ.out; have hs2 := SS1.out; have hs3 := LUX2.out; have hs4 := LUZ2.out; have hs5 := SBR2.out; first | omega | (simp <;> omega)))
      have Z3 := Lib.hid (hz.box)
      have L3 := Lib.hid (L2.out.same hz.below.size fun b h1 h2 => hz.other b (by have hs0 := LTX.out; have hs1 := LTZ.out; have hs2 := SS1.out; have hs3 := LUX2.out; have hs4 := LUZ2.out; have hs5 := SBR2.out; first | omega | (simp <;> omega)))
      clear hz B2 X2 Z2 L2
      (try simp only [Exit.inBlock, Exit.then])
      refine bodyPost_ret (v := .agg #[.int .i64 s, .int .i64 n, .int .i64 a]) ?_ rfl ?_
      · rw [results_cell1 rfl]
        exact stw.back Z3.out Try.underlying25 rfl szS
      · exact ⟨by rw [HE.out], B3.out⟩
end Go.Proofs.Ythbmnhbnoipdfaa.bs
