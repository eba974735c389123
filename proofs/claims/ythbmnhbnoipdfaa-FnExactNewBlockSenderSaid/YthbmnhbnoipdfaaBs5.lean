/- Acknowledged frames and given up frames, the specification. Condition: none. -/
import Derived.Test.YthbmnhbnoipdfaaBs4
namespace Go.Proofs.Ythbmnhbnoipdfaa.bs
open Go.RowKit sl harn rng bx stw
set_option linter.unusedVariables false
set_option linter.unusedSimpArgs false

theorem specSdE (a b d : Int) (h : sqd a b = d) (w : World) : Calls Try.prog 45 #[.int .i64 a, .int .i64 b] w fun e w' => e = .returned (.int .i64 d) ∧ w = w' := by subst h; exact specSd a b w
theorem nwr_of {c y e : Int} (h : sqd y c = e) : nwr c y = decide (1 ≤ e ∧ e ≤ 2047) := by unfold nwr; rw [h]
theorem cvr_yes {c b y : Int} (h : nwr c y = true) : cvr c b y = true := by unfold cvr; rw [h]; rfl
theorem cvr_far {c b y e : Int} (h : nwr c y = false) (he : sqd c y = e) (h2 : ¬ e < 16) : cvr c b y = false := by unfold cvr; rw [h, he, decide_eq_false (by omega)]; rfl
theorem cvr_near {c b y e : Int} (h : nwr c y = false) (he : sqd c y = e) (h1 : 0 ≤ e) (h2 : e < 16) : cvr c b y = bit b e := by unfold cvr; rw [h, he, decide_eq_true (by omega)]; rfl
set_option maxRecDepth 100000 in
set_option maxHeartbeats 4000000 in
theorem specRcv (s n a : Int) (c b : Int) (w : World) :
    Calls Try.prog 34 #[.agg #[.int .i64 s, .int .i64 n, .int .i64 a], .agg #[.int .i64 c, .int .i64 b]] w (SPost (rcv ⟨s, n, a⟩ c b) w) := by
  obtain ⟨i0, hi0, hz0, hz1, hz2⟩ := info_parts intInfo
  have HZ := Lib.hid (And.intro hi0 (And.intro hz0 (And.intro hz1 hz2)))
  clear hi0 hz0 hz1 hz2
  obtain ⟨v, hv⟩ : ∃ v, vs ⟨s, n, a⟩ = v := ⟨_, rfl⟩
  obtain ⟨f, hf⟩ : ∃ v, va c b = v := ⟨_, rfl⟩
  obtain ⟨d, hd⟩ : ∃ v, sqd c n = v := ⟨_, rfl⟩
  have HV := Lib.hid hv
  have HF := Lib.hid hf
  have HD := Lib.hid hd
  clear hv hf hd
  go_enter Try.func34, Try.ntmps34
  go_wp2_with fail
  obtain ⟨w0, hW⟩ : ∃ w0, ((w.alloc (.cells #[.int .i64 s, .int .i64 n, .int .i64 a] 25)).alloc (.cells #[.int .i64 c, .int .i64 b] 27)).alloc (.cells #[.int .i64 0, .int .i64 0, .int .i64 0] 25) = w0 := ⟨_, rfl⟩
  rw [hW]
  have B0 := Lib.hid (show Below w.heap.size w w0 by rw [← hW]; exact (((Below.refl _ _).alloc (by simp <;> omega) _).alloc (by simp <;> omega) _).alloc (by simp <;> omega) _)
  have X0 := Lib.hid (show Bx 25 w0 (w.heap.size) #[.int .i64 s, .int .i64 n, .int .i64 a] by
      rw [← hW]
      have hh := Bx.made 25 w #[.int .i64 s, .int .i64 n, .int .i64 a]
      exact ((hh.below (below_box _ _)).below (below_box _ _)))
  have A0 := Lib.hid (show Bx 27 w0 (w.heap.size + 1) #[.int .i64 c, .int .i64 b] by
      rw [← hW]
      have hh : Bx 27 ((w.alloc (.cells #[.int .i64 s, .int .i64 n, .int .i64 a] 25)).alloc (.cells #[.int .i64 c, .int .i64 b] 27)) (w.heap.size + 1) #[.int .i64 c, .int .i64 b] := by have hh := Bx.made 27 (w.alloc (.cells #[.int .i64 s, .int .i64 n, .int .i64 a] 25)) #[.int .i64 c, .int .i64 b]; simpa using hh
      exact (hh.below (below_box _ _)))
  have Z0 := Lib.hid (show Bx 25 w0 (w.heap.size + 1 + 1) #[.int .i64 0, .int .i64 0, .int .i64 0] by
      rw [← hW]
      have hh : Bx 25 (((w.alloc (.cells #[.int .i64 s, .int .i64 n, .int .i64 a] 25)).alloc (.cells #[.int .i64 c, .int .i64 b] 27)).alloc (.cells #[.int .i64 0, .int .i64 0, .int .i64 0] 25)) (w.heap.size + 1 + 1) #[.int .i64 0, .int .i64 0, .int .i64 0] := by have hh := Bx.made 25 ((w.alloc (.cells #[.int .i64 s, .int .i64 n, .int .i64 a] 25)).alloc (.cells #[.int .i64 c, .int .i64 b] 27)) #[.int .i64 0, .int .i64 0, .int .i64 0]; simpa using hh
      exact hh)
  clear hW
  have LTX := Lib.hid X0.out.lt
  have LTA := Lib.hid A0.out.lt
  have LTZ := Lib.hid Z0.out.lt
  go_wp2_with (refine stw.list_load rfl 25 _ rfl (w.heap.size) rfl 25 _ X0.out Try.underlying25 rfl szS ?_)
  (with_reducible refine (specVs s n a _).mono ?_)
  rintro e w1 hp
  obtain ⟨rfl, hb⟩ := b_parts HV.out hp
  clear hp
  have SS1 := Lib.hid hb.size
  have B1 := Lib.hid (B0.out.trans (hb.mono B0.out.size))
  have X1 := Lib.hid (X0.out.below hb)
  have A1 := Lib.hid (A0.out.below hb)
  have Z1 := Lib.hid (Z0.out.below hb)
  clear hb  B0 X0 A0 Z0
  cases v with
  | true =>
    have cA0 : w1.cell? ⟨w.heap.size + 1, 0, none⟩ = some (.int .i64 c) := A1.out.cell 0
    have cA1 : w1.cell? ⟨w.heap.size + 1, 1, none⟩ = some (.int .i64 b) := A1.out.cell 1
    go_wp2_with fail
    clear cA0 cA1
    (with_reducible refine (specVa c b _).mono ?_)
    rintro e w2 hp
    obtain ⟨rfl, hb⟩ := b_parts HF.out hp
    clear hp
    have SS2 := Lib.hid hb.size
    have B2 := Lib.hid (B1.out.trans (hb.mono B1.out.size))
    have X2 := Lib.hid (X1.out.below hb)
    have A2 := Lib.hid (A1.out.below hb)
    have Z2 := Lib.hid (Z1.out.below hb)
    clear hb  B1 X1 A1 Z1
    cases f with
    | true =>
      have HVC := Lib.hid (show 0 ≤ c ∧ c ≤ 4095 by have h := HF.out; unfold va at h; rw [Bool.and_eq_true] at h; exact of_decide_eq_true h.1)
      have HD0 := Lib.hid (show 0 ≤ d by have h1 := HVC.out; have h2 := vs_V HV.out; have h3 := h2.hn; have h4 := h2.hs; have h5 := sqd_in h1 (show 0 ≤ n ∧ n ≤ 4095 by dsimp only at h3; omega); rw [HD.out] at h5; omega)
      have cA0 : w2.cell? ⟨w.heap.size + 1, 0, none⟩ = some (.int .i64 c) := A2.out.cell 0
      have cX1 : w2.cell? ⟨w.heap.size, 1, none⟩ = some (.int .i64 n) := X2.out.cell 1
      go_wp2_with fail
      (with_reducible refine (specSdE c n d HD.out _).mono ?_)
      rintro e wq ⟨rfl, rfl⟩
      clear cA0 cX1
      by_cases hfar : d > 2047
      · have HE := Lib.hid (show rcv ⟨s, n, a⟩ c b = ⟨s, n, a⟩ by unfold rcv mfa; rw [HV.out, HF.out, HD.out, decide_eq_false (by omega), Bool.and_false, Bool.and_false, if_neg (by decide)])
        go_wp2_with (first | (refine stw.list_load rfl 25 _ rfl (w.heap.size) rfl 25 _ X2.out Try.underlying25 rfl szS ?_) | (refine stw.list_store rfl 25 _ _ rfl (w.heap.size + 1 + 1) #[.int .i64 s, .int .i64 n, .int .i64 a] rfl rfl 25 _ Z2.out rfl szS (oneS _ _ _) ?_; intro wz3 hz))
        have B3 := Lib.hid (hz.on B2.out (by have hs0 := LTX.out; have hs1 := LTA.out; have hs2 := LTZ.out; have hs3 := SS1.out; have hs4 := SS2.out; first | omega | (simp <;> omega)))
        have X3 := Lib.hid (hz.keep X2.out (by have hs0 := LTX.out; have hs1 := LTA.out; have hs2 := LTZ.out; have hs3 := SS1.out; have hs4 := SS2.out; first | omega | (simp <;> omega)))
        have A3 := Lib.hid (hz.keep A2.out (by have hs0 := LTX.out; have hs1 := LTA.out; have hs2 := LTZ.out; have hs3 := SS1.out; have hs4 := SS2.out; first | omega | (simp <;> omega)))
        have Z3 := Lib.hid (hz.box)
        clear hz B2 X2 A2 Z2
        (try simp only [Exit.inBlock, Exit.then])
        refine bodyPost_ret (v := .agg #[.int .i64 s, .int .i64 n, .int .i64 a]) ?_ rfl ?_
        · rw [results_cell1 rfl]
          exact stw.back Z3.out Try.underlying25 rfl szS
        · exact ⟨by rw [HE.out], B3.out⟩
      · have HM0 := Lib.hid (show (vs ⟨s, n, a⟩ && mfa ⟨s, n, a⟩ c b) = true by unfold mfa; rw [HV.out, HF.out, HD.out, decide_eq_true (by have := HD0.out; omega)]; rfl)
        have HE := Lib.hid (show rcv ⟨s, n, a⟩ c b = aft ⟨s, n, a⟩ (mks ⟨s, n, a⟩ (cvr c b)) by unfold rcv; rw [if_pos HM0.out])
        clear HM0
        have hv := HV.out
        obtain ⟨W, m, hV⟩ := vs_of hv
        obtain rfl : a = (m : Int) := hV.ha
        have HVV := Lib.hid hV
        have HSQ := Lib.hid (show sqd s n = (W : Int) from hV.sq)
        have HS := Lib.hid (show 0 ≤ s ∧ s ≤ 4095 from hV.hs)
        have HW := Lib.hid (show W ≤ 16 ∧ m < 65536 by have h1 := hV.hw; have h2 := hV.hb; have h3 : 2 ^ W ≤ 2 ^ 16 := Nat.pow_le_pow_right (by omega) h1; omega)
        have HOU := Lib.hid (show outs ⟨s, n, (m : Int)⟩ = (ou m W).map (fr s) from hV.outs)
        clear hV
        clear hv
        obtain ⟨cf, hcf⟩ : ∃ cf : Nat → Bool, (fun i => cvr c b (fr s i)) = cf := ⟨_, rfl⟩
        have HCF := Lib.hid (fun i => show cvr c b (fr s i) = cf i by rw [← hcf])
        have HMK := Lib.hid (show mks ⟨s, n, (m : Int)⟩ (cvr c b) = setl m (ou m W) cf by rw [HVV.out.mk' (cvr c b), setl_ou, ← hcf])
        clear hcf
        obtain ⟨bo, hbb⟩ : ∃ b, w2.heap.size = b := ⟨_, rfl⟩
        go_upto_region 4 with (refine stw.list_load rfl 25 _ rfl (w.heap.size) rfl 25 _ X2.out Try.underlying25 rfl szS ?_)
        generalize hW : w2.alloc (.cells #[.int .i64 s, .int .i64 n, .int .i64 (m : Int)] 25) = w3
        have LO := Lib.hid (show w.heap.size ≤ bo ∧ w.heap.size < bo ∧ w.heap.size + 1 < bo ∧ w.heap.size + 1 + 1 < bo by have h1 := B2.out.size; have h2X := X2.out.lt; have h2A := A2.out.lt; have h2Z := Z2.out.lt; have h3 := hbb; omega)
        have O3 := Lib.hid (show Bx 25 w3 bo #[.int .i64 s, .int .i64 n, .int .i64 (m : Int)] by rw [← hW, ← hbb]; exact Bx.made _ _ _)
        have hb : Below w2.heap.size w2 w3 := by rw [← hW]; exact below_box _ _
        (try rw [hbb])
        clear hW hbb
        have SS3 := Lib.hid hb.size
        have B3 := Lib.hid (B2.out.trans (hb.mono B2.out.size))
        have X3 := Lib.hid (X2.out.below hb)
        have A3 := Lib.hid (A2.out.below hb)
        have Z3 := Lib.hid (Z2.out.below hb)
        clear hb B2 X2 A2 Z2
        have LWO := Lib.hid O3.out.lt
        go_wp2_with (refine stw.list_load rfl 25 _ rfl (w.heap.size) rfl 25 _ X3.out Try.underlying25 rfl szS ?_)
        (with_reducible refine (specOs s n (m : Int) _).mono ?_)
        rintro e w4 ⟨A1, q, c1, rfl, ho, hb⟩
        rw [HOU.out] at ho
        have HQL := Lib.hid (show (ou m W).length = q by have := ho.len; rw [List.length_map] at this; exact this)
        have SS4 := Lib.hid hb.size
        have B4 := Lib.hid (B3.out.trans (hb.mono B3.out.size))
        have X4 := Lib.hid (X3.out.below hb)
        have A4 := Lib.hid (A3.out.below hb)
        have Z4 := Lib.hid (Z3.out.below hb)
        have O4 := Lib.hid (O3.out.below hb)
        clear hb B3 X3 A3 Z3 O3
        have L4 := Lib.hid ho
        clear ho
        have HQ16 := Lib.hid (show q ≤ 16 by have h1 := HQL.out; have h2 := ou_len m W; have h3 := HW.out; omega)
        go_wp2_with fail
        go_loopw [7] (fun v0 wr => ∃ (j : Nat) (M : Nat), v0 = .int .i64 (j : Int) ∧ (j ≤ q) ∧ (M = setl m ((ou m W).take j) cf) ∧ Below w.heap.size w wr ∧ Bx 25 wr w.heap.size #[.int .i64 s, .int .i64 n, .int .i64 (m : Int)] ∧ Bx 27 wr (w.heap.size + 1) #[.int .i64 c, .int .i64 b] ∧ Bx 25 wr (w.heap.size + 1 + 1) #[.int .i64 0, .int .i64 0, .int .i64 0] ∧ Bx 25 wr bo #[.int .i64 s, .int .i64 n, .int .i64 (M : Int)] ∧ Ow 3 .i64 wr (w3.heap.size) (w4.heap.size) A1 q c1 ((ou m W).map (fr s))) ((fun i _ => q - (intOf i).toNat))
        case atStart => exact ⟨0, m, rfl, by omega, rfl, B4.out, X4.out, A4.out, Z4.out, O4.out, L4.out⟩
        case round =>
          obtain ⟨j, M, rfl, ghj, ghM, gB5, gX5, gA5, gZ5, gO5, gL5⟩ := hrel
          have B5 := Lib.hid gB5
          have X5 := Lib.hid gX5
          have A5 := Lib.hid gA5
          have Z5 := Lib.hid gZ5
          have O5 := Lib.hid gO5
          have L5 := Lib.hid gL5
          have hj := Lib.hid ghj
          have hM := Lib.hid ghM
          clear gB5 gX5 gA5 gZ5 gO5 gL5 ghj ghM
          have LUX5 := Lib.hid X5.out.lt
          have LUA5 := Lib.hid A5.out.lt
          have LUZ5 := Lib.hid Z5.out.lt
          have LUO5 := Lib.hid O5.out.lt
          have SBR5 := Lib.hid B5.out.size
          have hj := hj.out
          have hq16 : q ≤ 16 := HQ16.out
          have HM := Lib.hid (show M < 65536 by rw [hM.out]; have h1 := setl_lt (c := cf) (L := (ou m W).take j) HVV.out.hb (fun i hi => (mem_ou.1 (List.mem_of_mem_take hi)).1); have h2 := HVV.out.hw; have h3 : 2 ^ W ≤ 2 ^ 16 := Nat.pow_le_pow_right (by omega) h2; omega)
          by_cases hlt : j < q
          · have hlt2 : (j : Int) < q := by omega
            obtain ⟨g, rfl, hgl⟩ := own.own_some L5.out (by omega)
            clear hgl
            obtain ⟨i, hi⟩ : ∃ i, (ou m W)[j]? = some i := ⟨_, List.getElem?_eq_getElem (by have h1 := HQL.out; omega)⟩
            have HI := Lib.hid hi
            have HIM := Lib.hid (mem_ou.1 (List.mem_of_getElem? hi))
            have HI16 := Lib.hid (show (i : Int) ≤ 15 ∧ i < 16 by have h1 := HIM.out.1; have h2 := HW.out; omega)
            obtain ⟨y, hy⟩ : ∃ y, fr s i = y := ⟨_, rfl⟩
            have HY := Lib.hid hy
            have HGD := Lib.hid (show ((ou m W).map (fr s)).getD j 0 = y by rw [List.getD_eq_getElem?_getD, List.getElem?_map, hi]; exact hy)
            have HYR := Lib.hid (show 0 ≤ y ∧ y ≤ 4095 by rw [← hy]; exact fr_rng _ _)
            have HSI := Lib.hid (show sqd s y = (i : Int) by rw [← hy]; exact sqd_fr HS.out HI16.out.2)
            clear hi hy
            obtain ⟨e1, he1⟩ : ∃ x, sqd c y = x := ⟨_, rfl⟩
            obtain ⟨e2, he2⟩ : ∃ x, sqd y c = x := ⟨_, rfl⟩
            have HE1 := Lib.hid he1
            have HE2 := Lib.hid he2
            have HE0 := Lib.hid (show 0 ≤ e1 by have h := sqd_in HVC.out HYR.out; rw [he1] at h; omega)
            clear he1 he2
            obtain ⟨t, ht⟩ : ∃ t, cf i = t := ⟨_, rfl⟩
            have HT := Lib.hid ht
            have HCT := Lib.hid (show cvr c b y = t by rw [← HY.out, HCF.out, ht])
            clear ht
            go_upto_region 8 with fail
            have mA0 : ∀ m : bx.Af wr, m.w.cell? ⟨w.heap.size + 1, 0, none⟩ = some (.int .i64 c) := fun m => (bx.Af.cells A5.out m).cell 0
            have mL : ∀ m : bx.Af wr, m.w.cell? ⟨g, j, none⟩ = some (.int .i64 y) := fun m => by rw [← HGD.out]; exact own.cell_of (L5.out.below m.below) hlt
            have hjq : (j : Int) < q := by omega
            have q1 := Lib.hid (fun m => ((specSdE c y e1 HE1.out m.w)).mono fun _ _ h => ⟨h.1, h.2 ▸ Below.refl _ _⟩ : ∀ m : bx.Af wr, Calls Try.prog 45 #[.int .i64 c, .int .i64 y] m.w fun e w' => e = .returned (.int .i64 e1) ∧ Below m.w.heap.size m.w w')
            refine bx.region_after (by kernel_rfl) (by kernel_rfl) ?_
            repeat (go_big_quiet_step ((go_at_call 45; with_reducible exact bx.Af.call (q1.out _))))
            refine wpQuiet_nil ?_
            intro _ hw'
            obtain ⟨nq9, hw''⟩ := hw'
            subst hw''
            clear mA0 mL hjq q1
            obtain ⟨w6, hw5⟩ : ∃ w5, nq9.w = w5 := ⟨_, rfl⟩
            have hb := nq9.below
            rw [hw5] at hb
            (try rw [hw5])
            clear hw5
            have SS6 := Lib.hid hb.size
            have B6 := Lib.hid (B5.out.trans (hb.mono B5.out.size))
            have X6 := Lib.hid (X5.out.below hb)
            have A6 := Lib.hid (A5.out.below hb)
            have Z6 := Lib.hid (Z5.out.below hb)
            have O6 := Lib.hid (O5.out.below hb)
            have L6 := Lib.hid (L5.out.below hb)
            clear hb nq9 B5 X5 A5 Z5 O5 L5
            go_upto_region 9 with fail
            obtain ⟨t1, h1⟩ : ∃ t, decide (1 ≤ e2 ∧ e2 ≤ 2047) = t := ⟨_, rfl⟩
            have H1 := Lib.hid h1
            have HNW := Lib.hid (show nwr c y = t1 from (nwr_of HE2.out).trans h1)
            clear h1
            cases t1 with
            | true =>
              have HTV := Lib.hid (show t = true from HCT.out.symm.trans (cvr_yes HNW.out))
              have mA0 : ∀ m : bx.Af w6, m.w.cell? ⟨w.heap.size + 1, 0, none⟩ = some (.int .i64 c) := fun m => (bx.Af.cells A6.out m).cell 0
              have mL : ∀ m : bx.Af w6, m.w.cell? ⟨g, j, none⟩ = some (.int .i64 y) := fun m => by rw [← HGD.out]; exact own.cell_of (L6.out.below m.below) hlt
              have hjq : (j : Int) < q := by omega
              have q1 := Lib.hid (fun m => ((specSdE y c e2 HE2.out m.w)).mono fun _ _ h => ⟨h.1, h.2 ▸ Below.refl _ _⟩ : ∀ m : bx.Af w6, Calls Try.prog 45 #[.int .i64 y, .int .i64 c] m.w fun e w' => e = .returned (.int .i64 e2) ∧ Below m.w.heap.size m.w w')
              have q2 := Lib.hid (fun m => ((l1R e2 1 2047 true m.w H1.out)).mono fun _ _ h => ⟨h.1, h.2 ▸ Below.refl _ _⟩ : ∀ m : bx.Af w6, Calls Try.prog 46 #[.int .i64 e2, .int .i64 1, .int .i64 2047] m.w fun e w' => e = .returned (.bool true) ∧ Below m.w.heap.size m.w w')
              refine bx.region_after (by kernel_rfl) (by kernel_rfl) ?_
              repeat (go_big_quiet_step (first | (go_at_call 45; with_reducible exact bx.Af.call (q1.out _)) | (go_at_call 46; with_reducible exact bx.Af.call (q2.out _))))
              refine wpQuiet_nil ?_
              intro _ hw'
              obtain ⟨nq9, hw''⟩ := hw'
              subst hw''
              clear mA0 mL hjq q1 q2
              obtain ⟨w7, hw5⟩ : ∃ w5, nq9.w = w5 := ⟨_, rfl⟩
              have hb := nq9.below
              rw [hw5] at hb
              (try rw [hw5])
              clear hw5
              have SS7 := Lib.hid hb.size
              have B7 := Lib.hid (B6.out.trans (hb.mono B6.out.size))
              have X7 := Lib.hid (X6.out.below hb)
              have A7 := Lib.hid (A6.out.below hb)
              have Z7 := Lib.hid (Z6.out.below hb)
              have O7 := Lib.hid (O6.out.below hb)
              have L7 := Lib.hid (L6.out.below hb)
              clear hb nq9 B6 X6 A6 Z6 O6 L6
              have HL := Lib.hid (sett_yes (m := m) HI.out (HT.out.trans HTV.out))
              obtain ⟨p, hp⟩ : ∃ p, wrap64 (2 ^ i) = p := ⟨_, rfl⟩
              have hp2 : IntKind.i64.wrap (2 ^ i) = p := (wrap_64 _).trans hp
              obtain ⟨M2, hM2⟩ : ∃ x, M ||| 2 ^ i = x := ⟨_, rfl⟩
              have hor : bits .or .i64 (M : Int) p = (M2 : Int) := by rw [← hp, ← hM2]; exact or_pow HM.out HI16.out.2
              have hi64 : (i : Int) ≤ 64 := by have := HI16.out; omega
              have HM2 := Lib.hid hM2
              have hjq : (j : Int) < q := by omega
              clear hM2
              go_upto_region 10 with fail
              refine reg.region_tail reg.Bel 12 76 [some [], some [(0, 62)], some [], some [(2, 64)], some [], some [], some [(4, 66), (5, 67)], some [(6, 68)], some [(3, 65), (7, 69)], some [(8, 70)], some [(1, 63), (9, 71)], some [], none] [(0, 62), (1, 63), (2, 64), (3, 65), (4, 66), (5, 67), (6, 68), (7, 69), (8, 70), (9, 71), (10, 72), (11, 73)]
                (fun w' => Below w.heap.size w w' ∧ Bx 25 w' (w.heap.size) #[.int .i64 s, .int .i64 n, .int .i64 (m : Int)] ∧ Bx 27 w' (w.heap.size + 1) #[.int .i64 c, .int .i64 b] ∧ Bx 25 w' (w.heap.size + 1 + 1) #[.int .i64 0, .int .i64 0, .int .i64 0] ∧ Bx 25 w' (bo) #[.int .i64 s, .int .i64 n, .int .i64 (M : Int)] ∧ Ow 3 .i64 w' (w3.heap.size) (w4.heap.size) (some ⟨g, 0, none⟩) q c1 ((ou m W).map (fr s)) ∧ True)
                (reg.rl [reg.is (.pointer (some ⟨bo, 2, none⟩)), reg.is (.int .i64 (M : Int)), reg.is (.pointer (some ⟨w.heap.size, 0, none⟩)), reg.is (.int .i64 s), reg.is (.slice (some ⟨g, 0, none⟩) q c1), reg.is (.int .i64 ((j : Int))), reg.is (.pointer (some ⟨g, j, none⟩)), reg.is (.int .i64 y), reg.is (.int .i64 ((i : Int))), reg.is (.int .i64 p), reg.is (.int .i64 (M2 : Int)), reg.is (.pointer (some ⟨bo, 2, none⟩)), reg.free])
                (by kernel_rfl) rfl (by kernel_rfl) (by kernel_rfl) rfl
                (fun w1 w2 hc hb => ⟨hc.1.trans (hb.mono hc.1.size), hc.2.1.below hb, hc.2.2.1.below hb, hc.2.2.2.1.below hb, hc.2.2.2.2.1.below hb, hc.2.2.2.2.2.1.below hb, trivial⟩) (reg.rl_keep _) (⟨own.below_drew B7.out, X7.out.same rfl, A7.out.same rfl, Z7.out.same rfl, O7.out.same rfl, own.ow_drew L7.out, trivial⟩) (by kernel_rfl) ⟨?_, ?_, ?_, ?_, ?_, ?_, ?_, ?_, ?_, ?_, ?_, ?_, trivial⟩ ?_
              · refine fun w8 hc  K hK => ?_
                (try simp only [Act.put, List.setIfInBounds_toArray, List.set_cons_zero, List.set_cons_succ])
                go_simp
                exact hK (.pointer (some ⟨bo, 2, none⟩)) _ rfl (Below.refl _ _)
              · refine fun w8 hc v0 h0 K hK => ?_
                obtain rfl : v0 = .pointer (some ⟨bo, 2, none⟩) := h0
                (try simp only [Act.put, List.setIfInBounds_toArray, List.set_cons_zero, List.set_cons_succ])
                have c0 : w8.cell? ⟨bo, 2, none⟩ = some (.int .i64 (M : Int)) := hc.2.2.2.2.1.cell 2
                go_simp
                exact hK (.int .i64 (M : Int)) _ rfl (Below.refl _ _)
              · refine fun w8 hc  K hK => ?_
                (try simp only [Act.put, List.setIfInBounds_toArray, List.set_cons_zero, List.set_cons_succ])
                go_simp
                exact hK (.pointer (some ⟨w.heap.size, 0, none⟩)) _ rfl (Below.refl _ _)
              · refine fun w8 hc v2 h2 K hK => ?_
                obtain rfl : v2 = .pointer (some ⟨w.heap.size, 0, none⟩) := h2
                (try simp only [Act.put, List.setIfInBounds_toArray, List.set_cons_zero, List.set_cons_succ])
                have c0 : w8.cell? ⟨w.heap.size, 0, none⟩ = some (.int .i64 s) := hc.2.1.cell 0
                go_simp
                exact hK (.int .i64 s) _ rfl (Below.refl _ _)
              · refine fun w8 hc  K hK => ?_
                (try simp only [Act.put, List.setIfInBounds_toArray, List.set_cons_zero, List.set_cons_succ])
                go_simp
                exact hK (.slice (some ⟨g, 0, none⟩) q c1) _ rfl (Below.refl _ _)
              · refine fun w8 hc  K hK => ?_
                (try simp only [Act.put, List.setIfInBounds_toArray, List.set_cons_zero, List.set_cons_succ])
                go_simp
                exact hK (.int .i64 ((j : Int))) _ rfl (Below.refl _ _)
              · refine fun w8 hc v4 h4 v5 h5 K hK => ?_
                obtain rfl : v4 = .slice (some ⟨g, 0, none⟩) q c1 := h4
                obtain rfl : v5 = .int .i64 ((j : Int)) := h5
                (try simp only [Act.put, List.setIfInBounds_toArray, List.set_cons_zero, List.set_cons_succ])
                go_simp
                exact hK (.pointer (some ⟨g, j, none⟩)) _ rfl (Below.refl _ _)
              · refine fun w8 hc v6 h6 K hK => ?_
                obtain rfl : v6 = .pointer (some ⟨g, j, none⟩) := h6
                (try simp only [Act.put, List.setIfInBounds_toArray, List.set_cons_zero, List.set_cons_succ])
                have c0 : w8.cell? ⟨g, j, none⟩ = some (.int .i64 y) := by rw [← HGD.out]; exact own.cell_of hc.2.2.2.2.2.1 hlt
                go_simp
                exact hK (.int .i64 y) _ rfl (Below.refl _ _)
              · refine fun w8 hc v3 h3 v7 h7 K hK => ?_
                obtain rfl : v3 = .int .i64 s := h3
                obtain rfl : v7 = .int .i64 y := h7
                (try simp only [Act.put, List.setIfInBounds_toArray, List.set_cons_zero, List.set_cons_succ])
                go_simp
                (with_reducible refine (specSdE s y (i : Int) HSI.out _).mono ?_)
                rintro e w3 ⟨rfl, rfl⟩
                exact hK _ _ rfl (Below.refl _ _)
              · refine fun w8 hc v8 h8 K hK => ?_
                obtain rfl : v8 = .int .i64 ((i : Int)) := h8
                (try simp only [Act.put, List.setIfInBounds_toArray, List.set_cons_zero, List.set_cons_succ])
                go_simp
                (try simp only [hp, hp2])
                exact hK (.int .i64 p) _ rfl (Below.refl _ _)
              · refine fun w8 hc v1 h1 v9 h9 K hK => ?_
                obtain rfl : v1 = .int .i64 (M : Int) := h1
                obtain rfl : v9 = .int .i64 p := h9
                (try simp only [Act.put, List.setIfInBounds_toArray, List.set_cons_zero, List.set_cons_succ])
                go_simp
                (try simp only [hor])
                exact hK (.int .i64 (M2 : Int)) _ rfl (Below.refl _ _)
              · refine fun w8 hc  K hK => ?_
                (try simp only [Act.put, List.setIfInBounds_toArray, List.set_cons_zero, List.set_cons_succ])
                go_simp
                exact hK (.pointer (some ⟨bo, 2, none⟩)) _ rfl (Below.refl _ _)
              refine fun wg8 hc v0 h0 v1 h1 v2 h2 v3 h3 v4 h4 v5 h5 v6 h6 v7 h7 v8 h8 v9 h9 v10 h10 v11 h11 => ?_
              obtain rfl : v0 = .pointer (some ⟨bo, 2, none⟩) := h0
              obtain rfl : v1 = .int .i64 (M : Int) := h1
              obtain rfl : v2 = .pointer (some ⟨w.heap.size, 0, none⟩) := h2
              obtain rfl : v3 = .int .i64 s := h3
              obtain rfl : v4 = .slice (some ⟨g, 0, none⟩) q c1 := h4
              obtain rfl : v5 = .int .i64 ((j : Int)) := h5
              obtain rfl : v6 = .pointer (some ⟨g, j, none⟩) := h6
              obtain rfl : v7 = .int .i64 y := h7
              obtain rfl : v8 = .int .i64 ((i : Int)) := h8
              obtain rfl : v9 = .int .i64 p := h9
              obtain rfl : v10 = .int .i64 (M2 : Int) := h10
              obtain rfl : v11 = .pointer (some ⟨bo, 2, none⟩) := h11
              (try simp only [reg.Obs])
              (try simp only [Act.put, List.setIfInBounds_toArray, List.set_cons_zero, List.set_cons_succ])
              simp only [List.drop_succ_cons, List.drop_zero]
              have B8 := Lib.hid hc.1
              have X8 := Lib.hid hc.2.1
              have A8 := Lib.hid hc.2.2.1
              have Z8 := Lib.hid hc.2.2.2.1
              have O8 := Lib.hid hc.2.2.2.2.1
              have L8 := Lib.hid hc.2.2.2.2.2.1
              clear hc B7 X7 A7 Z7 O7 L7
              have cO2 : wg8.cell? ⟨bo, 2, none⟩ = some (.int .i64 (M : Int)) := O8.out.cell 2
              have fO2 : wg8.frozen? ⟨bo, 2, none⟩ = false := O8.out.free 2
              go_wp2_with fail
              clear cO2 fO2
              have hWW : (wg8.setCell ⟨bo, 2, none⟩ (.int .i64 (M2 : Int))) = (wg8.setCell ⟨bo, 2, none⟩ (.int .i64 (M2 : Int))) := rfl
              obtain ⟨w9, hW⟩ : ∃ wy, (wg8.setCell ⟨bo, 2, none⟩ (.int .i64 (M2 : Int))) = wy := ⟨_, rfl⟩
              rw [hW]
              clear hWW
              have B9 := Lib.hid (show Below w.heap.size w w9 by rw [← hW]; exact (B8.out.setCell (p := ⟨bo, 2, none⟩) (by have hlO := LO.out; have hs0 := LTX.out; have hs1 := LTA.out; have hs2 := LTZ.out; have hs3 := SS1.out; have hs4 := SS2.out; have hs5 := SS3.out; have hs6 := LWO.out; have hs7 := SS4.out; have hs8 := LUX5.out; have hs9 := LUA5.out; have hs10 := LUZ5.out; have hs11 := LUO5.out; have hs12 := SBR5.out; have hs13 := SS6.out; have hs14 := SS7.out; first | omega | (simp <;> omega)) _))
              have X9 := Lib.hid (show Bx 25 w9 (w.heap.size) #[.int .i64 s, .int .i64 n, .int .i64 (m : Int)] by rw [← hW]; exact (X8.out.other (by have hlO := LO.out; have hs0 := LTX.out; have hs1 := LTA.out; have hs2 := LTZ.out; have hs3 := SS1.out; have hs4 := SS2.out; have hs5 := SS3.out; have hs6 := LWO.out; have hs7 := SS4.out; have hs8 := LUX5.out; have hs9 := LUA5.out; have hs10 := LUZ5.out; have hs11 := LUO5.out; have hs12 := SBR5.out; have hs13 := SS6.out; have hs14 := SS7.out; first | omega | (simp <;> omega)) _ _))
              have A9 := Lib.hid (show Bx 27 w9 (w.heap.size + 1) #[.int .i64 c, .int .i64 b] by rw [← hW]; exact (A8.out.other (by have hlO := LO.out; have hs0 := LTX.out; have hs1 := LTA.out; have hs2 := LTZ.out; have hs3 := SS1.out; have hs4 := SS2.out; have hs5 := SS3.out; have hs6 := LWO.out; have hs7 := SS4.out; have hs8 := LUX5.out; have hs9 := LUA5.out; have hs10 := LUZ5.out; have hs11 := LUO5.out; have hs12 := SBR5.out; have hs13 := SS6.out; have hs14 := SS7.out; first | omega | (simp <;> omega)) _ _))
              have Z9 := Lib.hid (show Bx 25 w9 (w.heap.size + 1 + 1) #[.int .i64 0, .int .i64 0, .int .i64 0] by rw [← hW]; exact (Z8.out.other (by have hlO := LO.out; have hs0 := LTX.out; have hs1 := LTA.out; have hs2 := LTZ.out; have hs3 := SS1.out; have hs4 := SS2.out; have hs5 := SS3.out; have hs6 := LWO.out; have hs7 := SS4.out; have hs8 := LUX5.out; have hs9 := LUA5.out; have hs10 := LUZ5.out; have hs11 := LUO5.out; have hs12 := SBR5.out; have hs13 := SS6.out; have hs14 := SS7.out; first | omega | (simp <;> omega)) _ _))
              have O9 := Lib.hid (show Bx 25 w9 (bo) #[.int .i64 s, .int .i64 n, .int .i64 (M2 : Int)] by rw [← hW]; exact (O8.out.set 2 _))
              have L9 := Lib.hid (show Ow 3 .i64 w9 (w3.heap.size) (w4.heap.size) (some ⟨g, 0, none⟩) q c1 ((ou m W).map (fr s)) by rw [← hW]; exact (L8.out.same (by simp [World.setCell]) fun b h1 h2 => by rw [Below.heap_setCell _ _ _ _ (by have hlO := LO.out; have hs0 := LTX.out; have hs1 := LTA.out; have hs2 := LTZ.out; have hs3 := SS1.out; have hs4 := SS2.out; have hs5 := SS3.out; have hs6 := LWO.out; have hs7 := SS4.out; have hs8 := LUX5.out; have hs9 := LUA5.out; have hs10 := LUZ5.out; have hs11 := LUO5.out; have hs12 := SBR5.out; have hs13 := SS6.out; have hs14 := SS7.out; first | omega | (simp <;> omega))]))
              clear hW B8 X8 A8 Z8 O8 L8
              go_roundw
              case rel => exact ⟨j + 1, M2, by go_num, by omega, by rw [HL.out, ← HM2.out, hM.out], B9.out, X9.out, A9.out, Z9.out, O9.out, L9.out⟩
              case measure => simp [intOf]; omega
            | false =>
              by_cases h16 : e1 < 16
              · obtain ⟨ke, rfl⟩ : ∃ k : Nat, e1 = k := ⟨e1.toNat, by have := HE0.out; omega⟩
                have HTB := Lib.hid (show t = bit b (ke : Int) from HCT.out.symm.trans (cvr_near HNW.out HE1.out HE0.out h16))
                obtain ⟨x, hx⟩ : ∃ x, b / 2 ^ ke = x := ⟨_, rfl⟩
                have hl := low1 x
                have HXB := Lib.hid (show t = (x % 2 == 1) by rw [HTB.out]; unfold bit; rw [Int.toNat_natCast, hx])
                have h16d : decide ((ke : Int) < 16) = true := decide_eq_true h16
                have hk64 : (ke : Int) ≤ 64 := by omega
                cases t with
                | true =>
                  have e3 : x % 2 = 1 := by simpa using HXB.out.symm
                  rw [e3] at hl
                  clear e3
                  have HTV := Lib.hid (rfl : (true : Bool) = true)
                  have mA0 : ∀ m : bx.Af w6, m.w.cell? ⟨w.heap.size + 1, 0, none⟩ = some (.int .i64 c) := fun m => (bx.Af.cells A6.out m).cell 0
                  have mA1 : ∀ m : bx.Af w6, m.w.cell? ⟨w.heap.size + 1, 1, none⟩ = some (.int .i64 b) := fun m => (bx.Af.cells A6.out m).cell 1
                  have mL : ∀ m : bx.Af w6, m.w.cell? ⟨g, j, none⟩ = some (.int .i64 y) := fun m => by rw [← HGD.out]; exact own.cell_of (L6.out.below m.below) hlt
                  have hjq : (j : Int) < q := by omega
                  have q1 := Lib.hid (fun m => ((specSdE y c e2 HE2.out m.w)).mono fun _ _ h => ⟨h.1, h.2 ▸ Below.refl _ _⟩ : ∀ m : bx.Af w6, Calls Try.prog 45 #[.int .i64 y, .int .i64 c] m.w fun e w' => e = .returned (.int .i64 e2) ∧ Below m.w.heap.size m.w w')
                  have q2 := Lib.hid (fun m => ((l1R e2 1 2047 false m.w H1.out)).mono fun _ _ h => ⟨h.1, h.2 ▸ Below.refl _ _⟩ : ∀ m : bx.Af w6, Calls Try.prog 46 #[.int .i64 e2, .int .i64 1, .int .i64 2047] m.w fun e w' => e = .returned (.bool false) ∧ Below m.w.heap.size m.w w')
                  refine bx.region_after (by kernel_rfl) (by kernel_rfl) ?_
                  repeat (go_big_quiet_step (first | (go_at_call 45; with_reducible exact bx.Af.call (q1.out _)) | (go_at_call 46; with_reducible exact bx.Af.call (q2.out _))))
                  refine wpQuiet_nil ?_
                  intro _ hw'
                  obtain ⟨nq9, hw''⟩ := hw'
                  subst hw''
                  clear mA0 mA1 mL hjq q1 q2 h16d hl hx hk64
                  obtain ⟨w7, hw5⟩ : ∃ w5, nq9.w = w5 := ⟨_, rfl⟩
                  have hb := nq9.below
                  rw [hw5] at hb
                  (try rw [hw5])
                  clear hw5
                  have SS7 := Lib.hid hb.size
                  have B7 := Lib.hid (B6.out.trans (hb.mono B6.out.size))
                  have X7 := Lib.hid (X6.out.below hb)
                  have A7 := Lib.hid (A6.out.below hb)
                  have Z7 := Lib.hid (Z6.out.below hb)
                  have O7 := Lib.hid (O6.out.below hb)
                  have L7 := Lib.hid (L6.out.below hb)
                  clear hb nq9 B6 X6 A6 Z6 O6 L6
                  have HL := Lib.hid (sett_yes (m := m) HI.out (HT.out.trans HTV.out))
                  obtain ⟨p, hp⟩ : ∃ p, wrap64 (2 ^ i) = p := ⟨_, rfl⟩
                  have hp2 : IntKind.i64.wrap (2 ^ i) = p := (wrap_64 _).trans hp
                  obtain ⟨M2, hM2⟩ : ∃ x, M ||| 2 ^ i = x := ⟨_, rfl⟩
                  have hor : bits .or .i64 (M : Int) p = (M2 : Int) := by rw [← hp, ← hM2]; exact or_pow HM.out HI16.out.2
                  have hi64 : (i : Int) ≤ 64 := by have := HI16.out; omega
                  have HM2 := Lib.hid hM2
                  have hjq : (j : Int) < q := by omega
                  clear hM2
                  go_upto_region 10 with fail
                  refine reg.region_tail reg.Bel 12 76 [some [], some [(0, 62)], some [], some [(2, 64)], some [], some [], some [(4, 66), (5, 67)], some [(6, 68)], some [(3, 65), (7, 69)], some [(8, 70)], some [(1, 63), (9, 71)], some [], none] [(0, 62), (1, 63), (2, 64), (3, 65), (4, 66), (5, 67), (6, 68), (7, 69), (8, 70), (9, 71), (10, 72), (11, 73)]
                    (fun w' => Below w.heap.size w w' ∧ Bx 25 w' (w.heap.size) #[.int .i64 s, .int .i64 n, .int .i64 (m : Int)] ∧ Bx 27 w' (w.heap.size + 1) #[.int .i64 c, .int .i64 b] ∧ Bx 25 w' (w.heap.size + 1 + 1) #[.int .i64 0, .int .i64 0, .int .i64 0] ∧ Bx 25 w' (bo) #[.int .i64 s, .int .i64 n, .int .i64 (M : Int)] ∧ Ow 3 .i64 w' (w3.heap.size) (w4.heap.size) (some ⟨g, 0, none⟩) q c1 ((ou m W).map (fr s)) ∧ True)
                    (reg.rl [reg.is (.pointer (some ⟨bo, 2, none⟩)), reg.is (.int .i64 (M : Int)), reg.is (.pointer (some ⟨w.heap.size, 0, none⟩)), reg.is (.int .i64 s), reg.is (.slice (some ⟨g, 0, none⟩) q c1), reg.is (.int .i64 ((j : Int))), reg.is (.pointer (some ⟨g, j, none⟩)), reg.is (.int .i64 y), reg.is (.int .i64 ((i : Int))), reg.is (.int .i64 p), reg.is (.int .i64 (M2 : Int)), reg.is (.pointer (some ⟨bo, 2, none⟩)), reg.free])
                    (by kernel_rfl) rfl (by kernel_rfl) (by kernel_rfl) rfl
                    (fun w1 w2 hc hb => ⟨hc.1.trans (hb.mono hc.1.size), hc.2.1.below hb, hc.2.2.1.below hb, hc.2.2.2.1.below hb, hc.2.2.2.2.1.below hb, hc.2.2.2.2.2.1.below hb, trivial⟩) (reg.rl_keep _) (⟨own.below_drew B7.out, X7.out.same rfl, A7.out.same rfl, Z7.out.same rfl, O7.out.same rfl, own.ow_drew L7.out, trivial⟩) (by kernel_rfl) ⟨?_, ?_, ?_, ?_, ?_, ?_, ?_, ?_, ?_, ?_, ?_, ?_, trivial⟩ ?_
                  · refine fun w8 hc  K hK => ?_
                    (try simp only [Act.put, List.setIfInBounds_toArray, List.set_cons_zero, List.set_cons_succ])
                    go_simp
                    exact hK (.pointer (some ⟨bo, 2, none⟩)) _ rfl (Below.refl _ _)
                  · refine fun w8 hc v0 h0 K hK => ?_
                    obtain rfl : v0 = .pointer (some ⟨bo, 2, none⟩) := h0
                    (try simp only [Act.put, List.setIfInBounds_toArray, List.set_cons_zero, List.set_cons_succ])
                    have c0 : w8.cell? ⟨bo, 2, none⟩ = some (.int .i64 (M : Int)) := hc.2.2.2.2.1.cell 2
                    go_simp
                    exact hK (.int .i64 (M : Int)) _ rfl (Below.refl _ _)
                  · refine fun w8 hc  K hK => ?_
                    (try simp only [Act.put, List.setIfInBounds_toArray, List.set_cons_zero, List.set_cons_succ])
                    go_simp
                    exact hK (.pointer (some ⟨w.heap.size, 0, none⟩)) _ rfl (Below.refl _ _)
                  · refine fun w8 hc v2 h2 K hK => ?_
                    obtain rfl : v2 = .pointer (some ⟨w.heap.size, 0, none⟩) := h2
                    (try simp only [Act.put, List.setIfInBounds_toArray, List.set_cons_zero, List.set_cons_succ])
                    have c0 : w8.cell? ⟨w.heap.size, 0, none⟩ = some (.int .i64 s) := hc.2.1.cell 0
                    go_simp
                    exact hK (.int .i64 s) _ rfl (Below.refl _ _)
                  · refine fun w8 hc  K hK => ?_
                    (try simp only [Act.put, List.setIfInBounds_toArray, List.set_cons_zero, List.set_cons_succ])
                    go_simp
                    exact hK (.slice (some ⟨g, 0, none⟩) q c1) _ rfl (Below.refl _ _)
                  · refine fun w8 hc  K hK => ?_
                    (try simp only [Act.put, List.setIfInBounds_toArray, List.set_cons_zero, List.set_cons_succ])
                    go_simp
                    exact hK (.int .i64 ((j : Int))) _ rfl (Below.refl _ _)
                  · refine fun w8 hc v4 h4 v5 h5 K hK => ?_
                    obtain rfl : v4 = .slice (some ⟨g, 0, none⟩) q c1 := h4
                    obtain rfl : v5 = .int .i64 ((j : Int)) := h5
                    (try simp only [Act.put, List.setIfInBounds_toArray, List.set_cons_zero, List.set_cons_succ])
                    go_simp
                    exact hK (.pointer (some ⟨g, j, none⟩)) _ rfl (Below.refl _ _)
                  · refine fun w8 hc v6 h6 K hK => ?_
                    obtain rfl : v6 = .pointer (some ⟨g, j, none⟩) := h6
                    (try simp only [Act.put, List.setIfInBounds_toArray, List.set_cons_zero, List.set_cons_succ])
                    have c0 : w8.cell? ⟨g, j, none⟩ = some (.int .i64 y) := by rw [← HGD.out]; exact own.cell_of hc.2.2.2.2.2.1 hlt
                    go_simp
                    exact hK (.int .i64 y) _ rfl (Below.refl _ _)
                  · refine fun w8 hc v3 h3 v7 h7 K hK => ?_
                    obtain rfl : v3 = .int .i64 s := h3
                    obtain rfl : v7 = .int .i64 y := h7
                    (try simp only [Act.put, List.setIfInBounds_toArray, List.set_cons_zero, List.set_cons_succ])
                    go_simp
                    (with_reducible refine (specSdE s y (i : Int) HSI.out _).mono ?_)
                    rintro e w3 ⟨rfl, rfl⟩
                    exact hK _ _ rfl (Below.refl _ _)
                  · refine fun w8 hc v8 h8 K hK => ?_
                    obtain rfl : v8 = .int .i64 ((i : Int)) := h8
                    (try simp only [Act.put, List.setIfInBounds_toArray, List.set_cons_zero, List.set_cons_succ])
                    go_simp
                    (try simp only [hp, hp2])
                    exact hK (.int .i64 p) _ rfl (Below.refl _ _)
                  · refine fun w8 hc v1 h1 v9 h9 K hK => ?_
                    obtain rfl : v1 = .int .i64 (M : Int) := h1
                    obtain rfl : v9 = .int .i64 p := h9
                    (try simp only [Act.put, List.setIfInBounds_toArray, List.set_cons_zero, List.set_cons_succ])
                    go_simp
                    (try simp only [hor])
                    exact hK (.int .i64 (M2 : Int)) _ rfl (Below.refl _ _)
                  · refine fun w8 hc  K hK => ?_
                    (try simp only [Act.put, List.setIfInBounds_toArray, List.set_cons_zero, List.set_cons_succ])
                    go_simp
                    exact hK (.pointer (some ⟨bo, 2, none⟩)) _ rfl (Below.refl _ _)
                  refine fun wg8 hc v0 h0 v1 h1 v2 h2 v3 h3 v4 h4 v5 h5 v6 h6 v7 h7 v8 h8 v9 h9 v10 h10 v11 h11 => ?_
                  obtain rfl : v0 = .pointer (some ⟨bo, 2, none⟩) := h0
                  obtain rfl : v1 = .int .i64 (M : Int) := h1
                  obtain rfl : v2 = .pointer (some ⟨w.heap.size, 0, none⟩) := h2
                  obtain rfl : v3 = .int .i64 s := h3
                  obtain rfl : v4 = .slice (some ⟨g, 0, none⟩) q c1 := h4
                  obtain rfl : v5 = .int .i64 ((j : Int)) := h5
                  obtain rfl : v6 = .pointer (some ⟨g, j, none⟩) := h6
                  obtain rfl : v7 = .int .i64 y := h7
                  obtain rfl : v8 = .int .i64 ((i : Int)) := h8
                  obtain rfl : v9 = .int .i64 p := h9
                  obtain rfl : v10 = .int .i64 (M2 : Int) := h10
                  obtain rfl : v11 = .pointer (some ⟨bo, 2, none⟩) := h11
                  (try simp only [reg.Obs])
                  (try simp only [Act.put, List.setIfInBounds_toArray, List.set_cons_zero, List.set_cons_succ])
                  simp only [List.drop_succ_cons, List.drop_zero]
                  have B8 := Lib.hid hc.1
                  have X8 := Lib.hid hc.2.1
                  have A8 := Lib.hid hc.2.2.1
                  have Z8 := Lib.hid hc.2.2.2.1
                  have O8 := Lib.hid hc.2.2.2.2.1
                  have L8 := Lib.hid hc.2.2.2.2.2.1
                  clear hc B7 X7 A7 Z7 O7 L7
                  have cO2 : wg8.cell? ⟨bo, 2, none⟩ = some (.int .i64 (M : Int)) := O8.out.cell 2
                  have fO2 : wg8.frozen? ⟨bo, 2, none⟩ = false := O8.out.free 2
                  go_wp2_with fail
                  clear cO2 fO2
                  have hWW : (wg8.setCell ⟨bo, 2, none⟩ (.int .i64 (M2 : Int))) = (wg8.setCell ⟨bo, 2, none⟩ (.int .i64 (M2 : Int))) := rfl
                  obtain ⟨w9, hW⟩ : ∃ wy, (wg8.setCell ⟨bo, 2, none⟩ (.int .i64 (M2 : Int))) = wy := ⟨_, rfl⟩
                  rw [hW]
                  clear hWW
                  have B9 := Lib.hid (show Below w.heap.size w w9 by rw [← hW]; exact (B8.out.setCell (p := ⟨bo, 2, none⟩) (by have hlO := LO.out; have hs0 := LTX.out; have hs1 := LTA.out; have hs2 := LTZ.out; have hs3 := SS1.out; have hs4 := SS2.out; have hs5 := SS3.out; have hs6 := LWO.out; have hs7 := SS4.out; have hs8 := LUX5.out; have hs9 := LUA5.out; have hs10 := LUZ5.out; have hs11 := LUO5.out; have hs12 := SBR5.out; have hs13 := SS6.out; have hs14 := SS7.out; first | omega | (simp <;> omega)) _))
                  have X9 := Lib.hid (show Bx 25 w9 (w.heap.size) #[.int .i64 s, .int .i64 n, .int .i64 (m : Int)] by rw [← hW]; exact (X8.out.other (by have hlO := LO.out; have hs0 := LTX.out; have hs1 := LTA.out; have hs2 := LTZ.out; have hs3 := SS1.out; have hs4 := SS2.out; have hs5 := SS3.out; have hs6 := LWO.out; have hs7 := SS4.out; have hs8 := LUX5.out; have hs9 := LUA5.out; have hs10 := LUZ5.out; have hs11 := LUO5.out; have hs12 := SBR5.out; have hs13 := SS6.out; have hs14 := SS7.out; first | omega | (simp <;> omega)) _ _))
                  have A9 := Lib.hid (show Bx 27 w9 (w.heap.size + 1) #[.int .i64 c, .int .i64 b] by rw [← hW]; exact (A8.out.other (by have hlO := LO.out; have hs0 := LTX.out; have hs1 := LTA.out; have hs2 := LTZ.out; have hs3 := SS1.out; have hs4 := SS2.out; have hs5 := SS3.out; have hs6 := LWO.out; have hs7 := SS4.out; have hs8 := LUX5.out; have hs9 := LUA5.out; have hs10 := LUZ5.out; have hs11 := LUO5.out; have hs12 := SBR5.out; have hs13 := SS6.out; have hs14 := SS7.out; first | omega | (simp <;> omega)) _ _))
                  have Z9 := Lib.hid (show Bx 25 w9 (w.heap.size + 1 + 1) #[.int .i64 0, .int .i64 0, .int .i64 0] by rw [← hW]; exact (Z8.out.other (by have hlO := LO.out; have hs0 := LTX.out; have hs1 := LTA.out; have hs2 := LTZ.out; have hs3 := SS1.out; have hs4 := SS2.out; have hs5 := SS3.out; have hs6 := LWO.out; have hs7 := SS4.out; have hs8 := LUX5.out; have hs9 := LUA5.out; have hs10 := LUZ5.out; have hs11 := LUO5.out; have hs12 := SBR5.out; have hs13 := SS6.out; have hs14 := SS7.out; first | omega | (simp <;> omega)) _ _))
                  have O9 := Lib.hid (show Bx 25 w9 (bo) #[.int .i64 s, .int .i64 n, .int .i64 (M2 : Int)] by rw [← hW]; exact (O8.out.set 2 _))
                  have L9 := Lib.hid (show Ow 3 .i64 w9 (w3.heap.size) (w4.heap.size) (some ⟨g, 0, none⟩) q c1 ((ou m W).map (fr s)) by rw [← hW]; exact (L8.out.same (by simp [World.setCell]) fun b h1 h2 => by rw [Below.heap_setCell _ _ _ _ (by have hlO := LO.out; have hs0 := LTX.out; have hs1 := LTA.out; have hs2 := LTZ.out; have hs3 := SS1.out; have hs4 := SS2.out; have hs5 := SS3.out; have hs6 := LWO.out; have hs7 := SS4.out; have hs8 := LUX5.out; have hs9 := LUA5.out; have hs10 := LUZ5.out; have hs11 := LUO5.out; have hs12 := SBR5.out; have hs13 := SS6.out; have hs14 := SS7.out; first | omega | (simp <;> omega))]))
                  clear hW B8 X8 A8 Z8 O8 L8
                  go_roundw
                  case rel => exact ⟨j + 1, M2, by go_num, by omega, by rw [HL.out, ← HM2.out, hM.out], B9.out, X9.out, A9.out, Z9.out, O9.out, L9.out⟩
                  case measure => simp [intOf]; omega
                | false =>
                  have e3 : x % 2 = 0 := by have h2 : ¬ x % 2 = 1 := (by simpa using HXB.out.symm); omega
                  rw [e3] at hl
                  clear e3
                  have HTV := Lib.hid (rfl : (false : Bool) = false)
                  have mA0 : ∀ m : bx.Af w6, m.w.cell? ⟨w.heap.size + 1, 0, none⟩ = some (.int .i64 c) := fun m => (bx.Af.cells A6.out m).cell 0
                  have mA1 : ∀ m : bx.Af w6, m.w.cell? ⟨w.heap.size + 1, 1, none⟩ = some (.int .i64 b) := fun m => (bx.Af.cells A6.out m).cell 1
                  have mL : ∀ m : bx.Af w6, m.w.cell? ⟨g, j, none⟩ = some (.int .i64 y) := fun m => by rw [← HGD.out]; exact own.cell_of (L6.out.below m.below) hlt
                  have hjq : (j : Int) < q := by omega
                  have q1 := Lib.hid (fun m => ((specSdE y c e2 HE2.out m.w)).mono fun _ _ h => ⟨h.1, h.2 ▸ Below.refl _ _⟩ : ∀ m : bx.Af w6, Calls Try.prog 45 #[.int .i64 y, .int .i64 c] m.w fun e w' => e = .returned (.int .i64 e2) ∧ Below m.w.heap.size m.w w')
                  have q2 := Lib.hid (fun m => ((l1R e2 1 2047 false m.w H1.out)).mono fun _ _ h => ⟨h.1, h.2 ▸ Below.refl _ _⟩ : ∀ m : bx.Af w6, Calls Try.prog 46 #[.int .i64 e2, .int .i64 1, .int .i64 2047] m.w fun e w' => e = .returned (.bool false) ∧ Below m.w.heap.size m.w w')
                  refine bx.region_after (by kernel_rfl) (by kernel_rfl) ?_
                  repeat (go_big_quiet_step (first | (go_at_call 45; with_reducible exact bx.Af.call (q1.out _)) | (go_at_call 46; with_reducible exact bx.Af.call (q2.out _))))
                  refine wpQuiet_nil ?_
                  intro _ hw'
                  obtain ⟨nq9, hw''⟩ := hw'
                  subst hw''
                  clear mA0 mA1 mL hjq q1 q2 h16d hl hx hk64
                  obtain ⟨w7, hw5⟩ : ∃ w5, nq9.w = w5 := ⟨_, rfl⟩
                  have hb := nq9.below
                  rw [hw5] at hb
                  (try rw [hw5])
                  clear hw5
                  have SS7 := Lib.hid hb.size
                  have B7 := Lib.hid (B6.out.trans (hb.mono B6.out.size))
                  have X7 := Lib.hid (X6.out.below hb)
                  have A7 := Lib.hid (A6.out.below hb)
                  have Z7 := Lib.hid (Z6.out.below hb)
                  have O7 := Lib.hid (O6.out.below hb)
                  have L7 := Lib.hid (L6.out.below hb)
                  clear hb nq9 B6 X6 A6 Z6 O6 L6
                  have HL := Lib.hid (sett_no (m := m) HI.out (HT.out.trans HTV.out))
                  go_wp2_with fail
                  go_roundw
                  case rel => exact ⟨j + 1, M, by go_num, by omega, by rw [HL.out]; exact hM.out, B7.out, X7.out, A7.out, Z7.out, O7.out, L7.out⟩
                  case measure => simp [intOf]; omega
              · have HTV := Lib.hid (show t = false from HCT.out.symm.trans (cvr_far HNW.out HE1.out h16))
                have h16d : decide (e1 < 16) = false := decide_eq_false h16
                have mA0 : ∀ m : bx.Af w6, m.w.cell? ⟨w.heap.size + 1, 0, none⟩ = some (.int .i64 c) := fun m => (bx.Af.cells A6.out m).cell 0
                have mL : ∀ m : bx.Af w6, m.w.cell? ⟨g, j, none⟩ = some (.int .i64 y) := fun m => by rw [← HGD.out]; exact own.cell_of (L6.out.below m.below) hlt
                have hjq : (j : Int) < q := by omega
                have q1 := Lib.hid (fun m => ((specSdE y c e2 HE2.out m.w)).mono fun _ _ h => ⟨h.1, h.2 ▸ Below.refl _ _⟩ : ∀ m : bx.Af w6, Calls Try.prog 45 #[.int .i64 y, .int .i64 c] m.w fun e w' => e = .returned (.int .i64 e2) ∧ Below m.w.heap.size m.w w')
                have q2 := Lib.hid (fun m => ((l1R e2 1 2047 false m.w H1.out)).mono fun _ _ h => ⟨h.1, h.2 ▸ Below.refl _ _⟩ : ∀ m : bx.Af w6, Calls Try.prog 46 #[.int .i64 e2, .int .i64 1, .int .i64 2047] m.w fun e w' => e = .returned (.bool false) ∧ Below m.w.heap.size m.w w')
                refine bx.region_after (by kernel_rfl) (by kernel_rfl) ?_
                repeat (go_big_quiet_step (first | (go_at_call 45; with_reducible exact bx.Af.call (q1.out _)) | (go_at_call 46; with_reducible exact bx.Af.call (q2.out _))))
                refine wpQuiet_nil ?_
                intro _ hw'
                obtain ⟨nq9, hw''⟩ := hw'
                subst hw''
                clear mA0 mL hjq q1 q2 h16d
                obtain ⟨w7, hw5⟩ : ∃ w5, nq9.w = w5 := ⟨_, rfl⟩
                have hb := nq9.below
                rw [hw5] at hb
                (try rw [hw5])
                clear hw5
                have SS7 := Lib.hid hb.size
                have B7 := Lib.hid (B6.out.trans (hb.mono B6.out.size))
                have X7 := Lib.hid (X6.out.below hb)
                have A7 := Lib.hid (A6.out.below hb)
                have Z7 := Lib.hid (Z6.out.below hb)
                have O7 := Lib.hid (O6.out.below hb)
                have L7 := Lib.hid (L6.out.below hb)
                clear hb nq9 B6 X6 A6 Z6 O6 L6
                have HL := Lib.hid (sett_no (m := m) HI.out (HT.out.trans HTV.out))
                go_wp2_with fail
                go_roundw
                case rel => exact ⟨j + 1, M, by go_num, by omega, by rw [HL.out]; exact hM.out, B7.out, X7.out, A7.out, Z7.out, O7.out, L7.out⟩
                case measure => simp [intOf]; omega
          · have hlt2 : ¬ (j : Int) < q := by omega
            have HTK := Lib.hid (show (ou m W).take j = ou m W from List.take_of_length_le (by have h1 := HQL.out; omega))
            obtain ⟨⟨x0, x1, x2⟩, hx⟩ : ∃ q, (⟨(adv s M).1, n, ((adv s M).2 : Int)⟩ : Bs) = q := ⟨_, rfl⟩
            have HX := Lib.hid hx
            have HE9 := Lib.hid (show rcv ⟨s, n, (m : Int)⟩ c b = ⟨x0, x1, x2⟩ by rw [HE.out, HMK.out, ← HTK.out, ← hM.out]; exact hx)
            clear hx HE
            go_wp2_with (refine stw.list_load rfl 25 _ rfl (bo) rfl 25 _ O5.out Try.underlying25 rfl szS ?_)
            (with_reducible refine (specAdv s n M HS.out HM.out _).mono ?_)
            rintro e w6 hp
            obtain ⟨rfl, hb⟩ := s_parts HX.out hp
            clear hp
            have SS6 := Lib.hid hb.size
            have B6 := Lib.hid (B5.out.trans (hb.mono B5.out.size))
            have X6 := Lib.hid (X5.out.below hb)
            have A6 := Lib.hid (A5.out.below hb)
            have Z6 := Lib.hid (Z5.out.below hb)
            have O6 := Lib.hid (O5.out.below hb)
            have L6 := Lib.hid (L5.out.below hb)
            clear hb  B5 X5 A5 Z5 O5 L5
            go_wp2_with (first | (refine stw.list_store rfl 25 _ _ rfl (w.heap.size + 1 + 1) #[.int .i64 x0, .int .i64 x1, .int .i64 x2] rfl rfl 25 _ Z6.out rfl szS (oneS _ _ _) ?_; intro wz7 hz))
            have B7 := Lib.hid (hz.on B6.out (by have hlO := LO.out; have hs0 := LTX.out; have hs1 := LTA.out; have hs2 := LTZ.out; have hs3 := SS1.out; have hs4 := SS2.out; have hs5 := SS3.out; have hs6 := LWO.out; have hs7 := SS4.out; have hs8 := LUX5.out; have hs9 := LUA5.out; have hs10 := LUZ5.out; have hs11 := LUO5.out; have hs12 := SBR5.out; have hs13 := SS6.out; first | omega | (simp <;> omega)))
            have X7 := Lib.hid (hz.keep X6.out (by have hlO := LO.out; have hs0 := LTX.out; have hs1 := LTA.out; have hs2 := LTZ.out; have hs3 := SS1.out; have hs4 := SS2.out; have hs5 := SS3.out; have hs6 := LWO.out; have hs7 := SS4.out; have hs8 := LUX5.out; have hs9 := LUA5.out; have hs10 := LUZ5.out; have hs11 := LUO5.out; have hs12 := SBR5.out; have hs13 := SS6.out; first | omega | (simp <;> omega)))
            have A7 := Lib.hid (hz.keep A6.out (by have hlO := LO.out; have hs0 := LTX.out; have hs1 := LTA.out; have hs2 := LTZ.out; have hs3 := SS1.out; have hs4 := SS2.out; have hs5 := SS3.out; have hs6 := LWO.out; have hs7 := SS4.out; have hs8 := LUX5.out; have hs9 := LUA5.out; have hs10 := LUZ5.out; have hs11 := LUO5.out; have hs12 := SBR5.out; have hs13 := SS6.out; first | omega | (simp <;> omega)))
            have Z7 := Lib.hid (hz.box)
            have O7 := Lib.hid (hz.keep O6.out (by have hlO := LO.out; have hs0 := LTX.out; have hs1 := LTA.out; have hs2 := LTZ.out; have hs3 := SS1.out; have hs4 := SS2.out; have hs5 := SS3.out; have hs6 := LWO.out; have hs7 := SS4.out; have hs8 := LUX5.out; have hs9 := LUA5.out; have hs10 := LUZ5.out; have hs11 := LUO5.out; have hs12 := SBR5.out; have hs13 := SS6.out; first | omega | (simp <;> omega)))
            have L7 := Lib.hid (L6.out.same hz.below.size fun b h1 h2 => hz.other b (by have hlO := LO.out; have hs0 := LTX.out; have hs1 := LTA.out; have hs2 := LTZ.out; have hs3 := SS1.out; have hs4 := SS2.out; have hs5 := SS3.out; have hs6 := LWO.out; have hs7 := SS4.out; have hs8 := LUX5.out; have hs9 := LUA5.out; have hs10 := LUZ5.out; have hs11 := LUO5.out; have hs12 := SBR5.out; have hs13 := SS6.out; first | omega | (simp <;> omega)))
            clear hz B6 X6 A6 Z6 O6 L6
            (try simp only [Exit.inBlock, Exit.then])
            refine bodyPost_ret (v := .agg #[.int .i64 x0, .int .i64 x1, .int .i64 x2]) ?_ rfl ?_
            · rw [results_cell1 rfl]
              exact stw.back Z7.out Try.underlying25 rfl szS
            · exact ⟨by rw [HE9.out], B7.out⟩
    | false =>
      have HE := Lib.hid (show rcv ⟨s, n, a⟩ c b = ⟨s, n, a⟩ by unfold rcv mfa; rw [HF.out, Bool.false_and, Bool.and_false, if_neg (by decide)])
      go_wp2_with (first | (refine stw.list_load rfl 25 _ rfl (w.heap.size) rfl 25 _ X2.out Try.underlying25 rfl szS ?_) | (refine stw.list_store rfl 25 _ _ rfl (w.heap.size + 1 + 1) #[.int .i64 s, .int .i64 n, .int .i64 a] rfl rfl 25 _ Z2.out rfl szS (oneS _ _ _) ?_; intro wz3 hz))
      have B3 := Lib.hid (hz.on B2.out (by have hs0 := LTX.out; have hs1 := LTA.out; have hs2 := LTZ.out; have hs3 := SS1.out; have hs4 := SS2.out; first | omega | (simp <;> omega)))
      have X3 := Lib.hid (hz.keep X2.out (by have hs0 := LTX.out; have hs1 := LTA.out; have hs2 := LTZ.out; have hs3 := SS1.out; have hs4 := SS2.out; first | omega | (simp <;> omega)))
      have A3 := Lib.hid (hz.keep A2.out (by have hs0 := LTX.out; have hs1 := LTA.out; have hs2 := LTZ.out; have hs3 := SS1.out; have hs4 := SS2.out; first | omega | (simp <;> omega)))
      have Z3 := Lib.hid (hz.box)
      clear hz B2 X2 A2 Z2
      (try simp only [Exit.inBlock, Exit.then])
      refine bodyPost_ret (v := .agg #[.int .i64 s, .int .i64 n, .int .i64 a]) ?_ rfl ?_
      · rw [results_cell1 rfl]
        exact stw.back Z3.out Try.underlying25 rfl szS
      · exact ⟨by rw [HE.out], B3.out⟩
  | false =>
    have HE := Lib.hid (show rcv ⟨s, n, a⟩ c b = ⟨s, n, a⟩ by unfold rcv mfa; rw [HV.out, Bool.false_and, if_neg (by decide)])
    go_wp2_with (first | (refine stw.list_load rfl 25 _ rfl (w.heap.size) rfl 25 _ X1.out Try.underlying25 rfl szS ?_) | (refine stw.list_store rfl 25 _ _ rfl (w.heap.size + 1 + 1) #[.int .i64 s, .int .i64 n, .int .i64 a] rfl rfl 25 _ Z1.out rfl szS (oneS _ _ _) ?_; intro wz2 hz))
    have B2 := Lib.hid (hz.on B1.out (by have hs0 := LTX.out; have hs1 := LTA.out; have hs2 := LTZ.out; have hs3 := SS1.out; first | omega | (simp <;> omega)))
    have X2 := Lib.hid (hz.keep X1.out (by have hs0 := LTX.out; have hs1 := LTA.out; have hs2 := LTZ.out; have hs3 := SS1.out; first | omega | (simp <;> omega)))
    have A2 := Lib.hid (hz.keep A1.out (by have hs0 := LTX.out; have hs1 := LTA.out; have hs2 := LTZ.out; have hs3 := SS1.out; first | omega | (simp <;> omega)))
    have Z2 := Lib.hid (hz.box)
    clear hz B1 X1 A1 Z1
    (try simp only [Exit.inBlock, Exit.then])
    refine bodyPost_ret (v := .agg #[.int .i64 s, .int .i64 n, .int .i64 a]) ?_ rfl ?_
    · rw [results_cell1 rfl]
      exact stw.back Z2.out Try.underlying25 rfl szS
    · exact ⟨by rw [HE.out], B2.out⟩
end Go.Proofs.Ythbmnhbnoipdfaa.bs
