/- MoveStart and ReceiveNumbered of the program. Condition: sizes up to 2^26. -/
import Derived.Test.YtejjafmppihneaaRo5
namespace Go.Proofs.Ytejjafmppihneaa.ro
open Go.RowKit sl harn bx stw
set_option linter.unusedVariables false
open ux (Nf Rob RR OO row rowB rowNf nf rob)
open mrw (blkOf)
open bs (nsq sqd)
set_option linter.unusedSimpArgs false

theorem rr_wf {w : World} {lo hi n c : Nat} {A : Option Addr} {xs : List Nf} (h : RR rowNf w lo hi (.slice A n c) xs) : ∀ x ∈ xs, Wf .u8 x.Body := by
  intro x hx
  obtain ⟨i, hi'⟩ := List.mem_iff_getElem?.1 hx
  have hlt : i < n := by have := (List.getElem?_eq_some_iff.1 hi').1; have := (nf_len h).1; omega
  obtain ⟨g, off, y, u, hA, hy, _, _, _, hu⟩ := ux.row_at (show RR (row 90 nf) w lo hi (.slice A n c) xs from h) hlt
  obtain rfl : x = y := Option.some.inj (hi'.symm.trans hy)
  obtain ⟨A0, n0, c0, rfl, hb⟩ := ux.nf_r hu
  exact (ux.rd_of hb).wf
theorem fill_mem (s : Int) : ∀ (xs : List Nf) (ws : Win) (x : List Int), some x ∈ fill s ws xs → some x ∈ ws ∨ ∃ f ∈ xs, f.Body = x
  | [], ws, x, h => .inl h
  | f :: r, ws, x, h => by
    rcases fill_mem s r _ x (show some x ∈ fill s (kp ws (sqd s f.Seq).toNat f.Body) r from h) with h1 | ⟨g, h1, h2⟩
    · rcases kp_mem h1 with h1 | h1
      · exact .inl h1
      · exact .inr ⟨f, List.mem_cons_self, h1.symm⟩
    · exact .inr ⟨g, List.mem_cons_of_mem _ h1, h2⟩
theorem start_wf {r : Rob} (h : ∀ x ∈ r.Pending, Wf .u8 x.Body) : ∀ x, some x ∈ (start r).ws → Wf .u8 x := by
  intro x hx
  rcases fill_mem _ _ _ _ hx with h1 | ⟨f, h1, h2⟩
  · have := List.eq_of_mem_replicate h1; cases this
  · rw [← h2]; exact h f h1
theorem mvs_no {r : Rob} {n : Int} (h : may r n = false) : mvs r n = (r, []) := by unfold mvs; rw [if_neg (by simp [h])]
theorem recv_no {r : Rob} {n : Int} {b : List Int} (h : (may r n && decide (b.length ≤ 100)) = false) : recv r n b = (r, []) := by unfold recv; rw [if_neg (by simp [h])]
theorem recv_yes {r : Rob} {n : Int} {b : List Int} (h : (may r n && decide (b.length ≤ 100)) = true) {k : Nat} (hk : sqd r.Start n = k) : recv r n b = (buf (rcvT (start r) k b), (rcvT (start r) k b).out) := by unfold recv; rw [if_pos h, hk, Int.toNat_natCast]
theorem mvs_yes {r : Rob} {n : Int} (h : may r n = true) {k : Nat} (hk : sqd r.Start n = k) : mvs r n = (buf (mvT (start r) k), (mvT (start r) k).out) := by unfold mvs; rw [if_pos h, hk, Int.toNat_natCast]
set_option maxRecDepth 100000 in
set_option maxHeartbeats 4000000 in
theorem implMv (s : Int) (xs : List Nf) (lo hi : Nat) (A : Option Addr) (n c : Nat) (m : Int) (w : World) (h : RR rowNf w lo hi (.slice A n c) xs) (hn : n ≤ 67108864) (hbd : ∀ x ∈ xs, x.Body.length ≤ 67108864) :
    Calls Try.prog 45 #[.agg #[.int .i64 s, .slice A n c], .int .i64 m] w (R2Post (mvs ⟨s, xs⟩ m) w) := by
  have RW := Lib.hid h
  obtain ⟨hlR, hncR, hcmR⟩ := nf_len h
  have HL := Lib.hid hlR
  have LHR := Lib.hid (show hi ≤ w.heap.size from h.hi_)
  clear hlR h
  have HN := Lib.hid hn
  have HBD := Lib.hid hbd
  clear hn hbd
  have HWF := Lib.hid (rr_wf RW.out)
  go_enter Try.func45, Try.ntmps45
  go_upto_region 1 with fail
  obtain ⟨w0, hW⟩ : ∃ w0, (w.alloc (.cells #[.int .i64 s, .slice A n c] 50)).alloc (.cells #[.int .i64 0, .slice none 0 0] 50) = w0 := ⟨_, rfl⟩
  rw [hW]
  have B0 := Lib.hid (show Below w.heap.size w w0 by rw [← hW]; exact ((Below.refl _ _).alloc (by simp <;> omega) _).alloc (by simp <;> omega) _)
  have X0 := Lib.hid (show Bx 50 w0 (w.heap.size) #[.int .i64 s, .slice A n c] by
      rw [← hW]
      have hh := Bx.made 50 w #[.int .i64 s, .slice A n c]
      exact (hh.below (below_box _ _)))
  have Z0 := Lib.hid (show Bx 50 w0 (w.heap.size + 1) #[.int .i64 0, .slice none 0 0] by
      rw [← hW]
      have hh : Bx 50 ((w.alloc (.cells #[.int .i64 s, .slice A n c] 50)).alloc (.cells #[.int .i64 0, .slice none 0 0] 50)) (w.heap.size + 1) #[.int .i64 0, .slice none 0 0] := by have hh := Bx.made 50 (w.alloc (.cells #[.int .i64 s, .slice A n c] 50)) #[.int .i64 0, .slice none 0 0]; simpa using hh
      exact hh)
  have R0 := Lib.hid (show RR rowNf w0 lo hi (.slice A n c) xs by rw [← hW]; exact ((RW.out.below (below_box _ _)).below (below_box _ _)))
  clear hW
  have LTX := Lib.hid X0.out.lt
  have LTZ := Lib.hid Z0.out.lt
  have cX0 : w0.cell? ⟨w.heap.size, 0, none⟩ = some (.int .i64 s) := X0.out.cell 0
  have cX1 : w0.cell? ⟨w.heap.size, 1, none⟩ = some (.slice A n c) := X0.out.cell 1
  go_wp2_with fail
  clear cX0 cX1
  (with_reducible refine (bs.implSd s m _).mono ?_)
  rintro e wq ⟨rfl, rfl⟩
  obtain ⟨d, hd⟩ : ∃ v, sqd s m = v := ⟨_, rfl⟩
  have HD := Lib.hid hd
  clear hd
  rw [HD.out]
  obtain ⟨v, hv⟩ : ∃ v, vr ⟨s, xs⟩ = v := ⟨_, rfl⟩
  have HV := Lib.hid hv
  clear hv
  obtain ⟨v2, hv2⟩ : ∃ v, decide (0 ≤ d ∧ d ≤ 2047) = v := ⟨_, rfl⟩
  have HV2 := Lib.hid hv2
  clear hv2
  have cX0 : w0.cell? ⟨w.heap.size, 0, none⟩ = some (.int .i64 s) := X0.out.cell 0
  have cX1 : w0.cell? ⟨w.heap.size, 1, none⟩ = some (.slice A n c) := X0.out.cell 1
  go_wp2_with (refine stw.list_load rfl 50 _ rfl (w.heap.size) rfl 50 _ X0.out Try.underlying50 rfl ux.szRob ?_)
  clear cX0 cX1
  (with_reducible refine (implVr s xs lo hi A n c _ R0.out).mono ?_)
  rintro e w1 hp
  obtain ⟨rfl, hb⟩ := b_parts HV.out hp
  clear hp
  have SS1 := Lib.hid hb.size
  have B1 := Lib.hid (B0.out.trans (hb.mono B0.out.size))
  have X1 := Lib.hid (X0.out.below hb)
  have Z1 := Lib.hid (Z0.out.below hb)
  have R1 := Lib.hid (R0.out.below hb)
  clear hb  B0 X0 Z0 R0
  obtain ⟨r2, hr2⟩ : ∃ v, mvs ⟨s, xs⟩ m = v := ⟨_, rfl⟩
  have HR2 := Lib.hid hr2
  clear hr2
  rw [HR2.out]
  cases v with
  | true =>
    go_wp2_with fail
    (with_reducible refine (ahead d v2 _ HV2.out).mono ?_)
    rintro e wq ⟨rfl, rfl⟩
    cases v2 with
    | true =>
      have hd9 := of_decide_eq_true HV2.out
      obtain ⟨k, rfl⟩ : ∃ k : Nat, d = k := ⟨d.toNat, by omega⟩
      have HK2 := Lib.hid (show k ≤ 2047 by omega)
      clear hd9
      have HVV := Lib.hid (show vr ⟨s, xs⟩ = true from HV.out)
      have cX0 : w1.cell? ⟨w.heap.size, 0, none⟩ = some (.int .i64 s) := X1.out.cell 0
      have cX1 : w1.cell? ⟨w.heap.size, 1, none⟩ = some (.slice A n c) := X1.out.cell 1
      go_wp2_with (refine stw.list_load rfl 50 _ rfl (w.heap.size) rfl 50 _ X1.out Try.underlying50 rfl ux.szRob ?_)
      clear cX0 cX1
      obtain ⟨L0, hL0⟩ : ∃ m, w1.heap.size = m := ⟨_, rfl⟩
      have HL0 := Lib.hid (show w.heap.size + 1 < L0 by have h1 := Z1.out.lt; omega)
      (with_reducible refine (implRo s xs lo hi A n c _ R1.out HVV.out).mono ?_)
      rintro e w2 hp
      obtain ⟨be, rfl, hE, hbe, hb⟩ := rg_parts hp
      clear hp
      have HBE := Lib.hid (show L0 ≤ be ∧ be < w2.heap.size from ⟨by omega, hE.lt⟩)
      have HLN := Lib.hid (show L0 ≤ w2.heap.size by have h1 := hE.lt; omega)
      clear hbe hL0
      have SS2 := Lib.hid hb.size
      have B2 := Lib.hid (B1.out.trans (hb.mono B1.out.size))
      have X2 := Lib.hid (X1.out.below hb)
      have Z2 := Lib.hid (Z1.out.below hb)
      have R2 := Lib.hid (R1.out.below hb)
      clear hb B1 X1 Z1 R1
      have E2 := Lib.hid hE
      clear hE
      obtain ⟨hok, hpe⟩ := vr_ok HVV.out
      have HOKW := Lib.hid hok
      have HPE := Lib.hid hpe
      clear hok hpe
      have hX0 : Bx 84 (w2.alloc (.cells vcs0 84)) w2.heap.size vcs0 := Bx.made _ _ _
      have hS0 : vcs0.size = (vcs (start ⟨s, xs⟩) (.slice (some ⟨be, 0, none⟩) 0 0)).size := (vcs_size none16_len).trans (vcs_size HOKW.out.len).symm
      have hS1 := szRv (t := start ⟨s, xs⟩) (hd := .slice (some ⟨be, 0, none⟩) 0 0) HOKW.out.len
      have hO1 := vcs_one (start ⟨s, xs⟩) (some ⟨be, 0, none⟩) 0 0
      go_upto_region 5 with (refine stw.list_store rfl 84 _ _ rfl (w2.heap.size) (vcs (start ⟨s, xs⟩) (.slice (some ⟨be, 0, none⟩) 0 0)) rfl rfl 84 _ hX0 hS0 hS1 hO1 ?_; intro wz hz)
      have hb := hz.on ((Below.refl w2.heap.size w2).alloc (Nat.le_refl _) (.cells vcs0 84)) (Nat.le_refl _)
      have hE := hz.keep (E2.out.below (bx.below_box _ _)) (by have := HBE.out; omega)
      have hV := hz.box
      clear hz hX0 hS0 hS1 hO1
      obtain ⟨w3, hwz⟩ : ∃ w5, wz = w5 := ⟨_, rfl⟩
      rw [hwz] at hb hE hV ⊢
      clear hwz
      have hr := Rv.start_ (t := start ⟨s, xs⟩) hE hV (by have := HBE.out; omega) rfl HOKW.out.len HOKW.out.s (fun x hx => ⟨start_wf HWF.out x hx, HOKW.out.b x hx⟩)
      clear hE hV
      obtain ⟨b9, hb9⟩ : ∃ b, w2.heap.size = b := ⟨_, rfl⟩
      have HB9 := Lib.hid (show L0 ≤ b9 by have := HLN.out; omega)
      rw [hb9] at hr
      (try rw [hb9])
      clear hb9
      have HOL := Lib.hid (show (start ⟨s, xs⟩).out.length ≤ 1000000 from Nat.zero_le _)
      clear E2
      have SS3 := Lib.hid hb.size
      have B3 := Lib.hid (B2.out.trans (hb.mono B2.out.size))
      have X3 := Lib.hid (X2.out.below hb)
      have Z3 := Lib.hid (Z2.out.below hb)
      have R3 := Lib.hid (R2.out.below hb)
      clear hb B2 X2 Z2 R2
      have RV3 := Lib.hid hr
      have HFP3 := Lib.hid (show ∀ q, q ∈ [be] → L0 ≤ q from fun q hq => by have := List.mem_singleton.1 hq; have := HBE.out; omega)
      clear hr
      go_wp2_with fail
      (with_reducible refine (advance (start ⟨s, xs⟩) k b9 [be] _ RV3.out (by have := HK2.out; omega) HOL.out).mono ?_)
      rintro e w4 hp
      obtain ⟨rfl, f6, hr, hf, hk⟩ := av_parts hp
      clear hp
      have SS4 := Lib.hid hk.size
      have B4 := Lib.hid (B3.out.trans (ux.ks_bel hk (fun b hb => by rcases List.mem_cons.1 hb with h9 | h9; (have hs0 := LTX.out; have hs1 := LTZ.out; have hs2 := LHR.out; have hs3 := SS1.out; have hs4 := SS2.out; have hs5 := SS3.out; have hs6 := HL0.out; have hs7 := HB9.out; have hs8 := HLN.out; omega); (have h8 := HFP3.out _ h9; have hs0 := LTX.out; have hs1 := LTZ.out; have hs2 := LHR.out; have hs3 := SS1.out; have hs4 := SS2.out; have hs5 := SS3.out; have hs6 := HL0.out; have hs7 := HB9.out; have hs8 := HLN.out; omega)) B3.out.size))
      have Z4 := Lib.hid (ux.bx_ks Z3.out hk (fun hm => by rcases List.mem_cons.1 hm with h9 | h9; (have hs0 := LTX.out; have hs1 := LTZ.out; have hs2 := LHR.out; have hs3 := SS1.out; have hs4 := SS2.out; have hs5 := SS3.out; have hs6 := HL0.out; have hs7 := HB9.out; have hs8 := HLN.out; omega); (have h8 := HFP3.out _ h9; have hs0 := LTX.out; have hs1 := LTZ.out; have hs2 := LHR.out; have hs3 := SS1.out; have hs4 := SS2.out; have hs5 := SS3.out; have hs6 := HL0.out; have hs7 := HB9.out; have hs8 := HLN.out; omega)))
      have HFP4 := Lib.hid (show ∀ q, q ∈ f6 → L0 ≤ q from fun q hq => by rcases hf q hq with h9 | h9; exact HFP3.out q h9; (have hs0 := LTX.out; have hs1 := LTZ.out; have hs2 := LHR.out; have hs3 := SS1.out; have hs4 := SS2.out; have hs5 := SS3.out; have hs6 := HL0.out; have hs7 := HB9.out; have hs8 := HLN.out; omega))
      have RV4 := Lib.hid hr
      clear hr hf hk RV3 HFP3 B3 Z3
      go_wp2_with fail
      (with_reducible refine (ready (advS (start ⟨s, xs⟩) k) b9 f6 _ RV4.out (by have h1 := adv_out (start ⟨s, xs⟩) k; have h2 := HOKW.out.len; have h3 : (start ⟨s, xs⟩).out.length = 0 := rfl; omega)).mono ?_)
      rintro e w5 hp
      obtain ⟨rfl, f7, hr, hf, hk⟩ := av_parts hp
      clear hp
      have SS5 := Lib.hid hk.size
      have B5 := Lib.hid (B4.out.trans (ux.ks_bel hk (fun b hb => by rcases List.mem_cons.1 hb with h9 | h9; (have hs0 := LTX.out; have hs1 := LTZ.out; have hs2 := LHR.out; have hs3 := SS1.out; have hs4 := SS2.out; have hs5 := SS3.out; have hs6 := HL0.out; have hs7 := HB9.out; have hs8 := HLN.out; have hs9 := SS4.out; omega); (have h8 := HFP4.out _ h9; have hs0 := LTX.out; have hs1 := LTZ.out; have hs2 := LHR.out; have hs3 := SS1.out; have hs4 := SS2.out; have hs5 := SS3.out; have hs6 := HL0.out; have hs7 := HB9.out; have hs8 := HLN.out; have hs9 := SS4.out; omega)) B4.out.size))
      have Z5 := Lib.hid (ux.bx_ks Z4.out hk (fun hm => by rcases List.mem_cons.1 hm with h9 | h9; (have hs0 := LTX.out; have hs1 := LTZ.out; have hs2 := LHR.out; have hs3 := SS1.out; have hs4 := SS2.out; have hs5 := SS3.out; have hs6 := HL0.out; have hs7 := HB9.out; have hs8 := HLN.out; have hs9 := SS4.out; omega); (have h8 := HFP4.out _ h9; have hs0 := LTX.out; have hs1 := LTZ.out; have hs2 := LHR.out; have hs3 := SS1.out; have hs4 := SS2.out; have hs5 := SS3.out; have hs6 := HL0.out; have hs7 := HB9.out; have hs8 := HLN.out; have hs9 := SS4.out; omega)))
      have HFP5 := Lib.hid (show ∀ q, q ∈ f7 → L0 ≤ q from fun q hq => by rcases hf q hq with h9 | h9; exact HFP4.out q h9; (have hs0 := LTX.out; have hs1 := LTZ.out; have hs2 := LHR.out; have hs3 := SS1.out; have hs4 := SS2.out; have hs5 := SS3.out; have hs6 := HL0.out; have hs7 := HB9.out; have hs8 := HLN.out; have hs9 := SS4.out; omega))
      have RV5 := Lib.hid hr
      clear hr hf hk RV4 HFP4 B4 Z4
      go_upto_region 7 with fail
      have HE := Lib.hid (show r2 = (buf (runS (advS (start ⟨s, xs⟩) k)), (runS (advS (start ⟨s, xs⟩) k)).out) by rw [← HR2.out]; exact mvs_yes (by unfold may; rw [HV.out, HD.out, HV2.out]; rfl) HD.out)
      obtain ⟨A5, n5, c5, hX5, hO5, hbf5, hlen5⟩ := RV5.out
      have HX5 := Lib.hid hX5
      have HO5 := Lib.hid hO5
      have HBF5 := Lib.hid hbf5
      have HT5 := Lib.hid hlen5
      have HLB5 := Lib.hid hX5.lt
      clear hX5 hO5 hbf5 hlen5
      have HZW := Lib.hid (show w.heap.size + 1 < w5.heap.size from Z5.out.lt)
      obtain ⟨r5, hr5⟩ : ∃ r, buf ((runS (advS (start ⟨s, xs⟩) k))) = r := ⟨_, rfl⟩
      have HR5 := Lib.hid hr5
      clear hr5
      refine reg.region_free (rgp.EA 4 reg.Bel (E7 (w.heap.size + 1))) 32 [(4, 29)] [some [], some [(0, 28)], some [], some [(2, 30)], some [(1, 29)], some [(3, 31)]] [(0, 28), (1, 29), (2, 30), (3, 31), (5, 5)]
        (C7 w5 (w.heap.size + 1))
        (rgp.RA 4 [rgp.is (.agg (vcs ((runS (advS (start ⟨s, xs⟩) k))) (.slice A5 n5 c5))), bufv w5 (w.heap.size + 1) r5 HZW.out, rgp.is (.pointer (some ⟨b9, 33, none⟩)), rgp.is (.slice A5 n5 c5), rgp.val fun _ => True, rgp.is (.slice A5 n5 c5)] (stv (w.heap.size + 1)))
        (by kernel_rfl) (by kernel_rfl) rfl
        (c7_keep 4 w5 _)
        (rgp.ra_keep (stv_keep _)) ⟨⟨rfl, rfl, rfl, Nat.le_refl _, fun _ _ _ => rfl⟩, ⟨_, rfl, Z5.out.same rfl⟩⟩ (by kernel_rfl) ⟨?_, ?_, ?_, ?_, ?_, ?_, trivial⟩ ?_
      · refine fun w8 hc K hK => ?_
        (try simp only [Act.put, List.setIfInBounds_toArray, List.set_cons_zero, List.set_cons_succ])
        rw [if_pos (by rfl)]
        refine stw.wp_load_bx 84 _ rfl b9 rfl 84 _ (show Bx 84 w8 b9 _ from ux.bx_ks HX5.out hc.1 (fun hm => by have h9 := List.mem_singleton.1 hm; have hs0 := LTX.out; have hs1 := LTZ.out; have hs2 := LHR.out; have hs3 := SS1.out; have hs4 := SS2.out; have hs5 := SS3.out; have hs6 := HL0.out; have hs7 := HB9.out; have hs8 := HLN.out; have hs9 := SS4.out; have hs10 := SS5.out; omega)) Try.underlying84 rfl (szRv HT5.out.1) ?_
        exact hK _ _ (rgp.ra1 rfl rfl) (rgp.ea1 rfl (Below.refl _ _))
      · refine fun w8 hc v0 h0 K hK => ?_
        have h0 := rgp.ra1_out rfl h0
        obtain rfl : v0 = .agg (vcs ((runS (advS (start ⟨s, xs⟩) k))) (.slice A5 n5 c5)) := h0
        (try simp only [Act.put, List.setIfInBounds_toArray, List.set_cons_zero, List.set_cons_succ])
        have hcp8 := implBuf ((runS (advS (start ⟨s, xs⟩) k))) (.slice A5 n5 c5) w8 HT5.out.1 HT5.out.2.1 HT5.out.2.2
        rw [HR5.out] at hcp8
        go_simp
        (with_reducible refine hcp8.mono ?_)
        rintro e w3 hp
        obtain ⟨A7, n7, c7, f7, rfl, ho7, hb7⟩ := ro_parts hp
        exact hK _ _ (rgp.ra1 rfl ⟨A7, n7, c7, f7, _, rfl, oo_narrow ho7 (fun q hq => by have h9 := (ho7.inn q hq).1; have h8 := hc.1.size; omega)⟩) (rgp.ea1 rfl hb7)
      · refine fun w8 hc K hK => ?_
        (try simp only [Act.put, List.setIfInBounds_toArray, List.set_cons_zero, List.set_cons_succ])
        go_simp
        exact hK (.pointer (some ⟨b9, 33, none⟩)) _ (rgp.ra1 rfl rfl) (rgp.ea1 rfl (Below.refl _ _))
      · refine fun w8 hc v2 h2 K hK => ?_
        have h2 := rgp.ra1_out rfl h2
        obtain rfl : v2 = .pointer (some ⟨b9, 33, none⟩) := h2
        (try simp only [Act.put, List.setIfInBounds_toArray, List.set_cons_zero, List.set_cons_succ])
        have c0 : w8.cell? ⟨b9, 33, none⟩ = some (.slice A5 n5 c5) := (Bx.cell (show Bx 84 w8 b9 _ from ux.bx_ks HX5.out hc.1 (fun hm => by have h9 := List.mem_singleton.1 hm; have hs0 := LTX.out; have hs1 := LTZ.out; have hs2 := LHR.out; have hs3 := SS1.out; have hs4 := SS2.out; have hs5 := SS3.out; have hs6 := HL0.out; have hs7 := HB9.out; have hs8 := HLN.out; have hs9 := SS4.out; have hs10 := SS5.out; omega)) 33).trans (vcs_hd HT5.out.1)
        go_simp
        exact hK (.slice A5 n5 c5) _ (rgp.ra1 rfl rfl) (rgp.ea1 rfl (Below.refl _ _))
      · refine fun w8 hc v1 h1 K hK => ?_
        have h1 := rgp.ra1_out rfl h1
        obtain ⟨A7, n7, c7, f7, hi7, rfl, ho7⟩ := h1
        (try simp only [Act.put, List.setIfInBounds_toArray, List.set_cons_zero, List.set_cons_succ])
        obtain ⟨cur, hcur, hXc⟩ := hc.2
        refine stw.step_store rfl 50 _ _ rfl (w.heap.size + 1) #[.int .i64 r5.Start, .slice A7 n7 c7] rfl rfl 50 _ hXc (by rw [hcur]; rfl) ux.szRob (ux.oneRob _ _ _ _) ?_
        intro wz hz
        exact hK undef _ (rgp.ra2 ⟨_, rfl, hz.box⟩) (rgp.ea2 ⟨⟨hz.below.os, hz.below.tape, hz.below.output, hz.below.size, fun q _ hq => hz.other q (fun e => hq (by rw [e]; exact List.mem_singleton.2 rfl))⟩, ⟨_, rfl, hz.box⟩⟩)
      · refine fun w8 hc v3 h3 K hK => ?_
        have h3 := rgp.ra1_out rfl h3
        obtain rfl : v3 = .slice A5 n5 c5 := h3
        (try simp only [Act.put, List.setIfInBounds_toArray, List.set_cons_zero, List.set_cons_succ])
        go_simp
        exact hK (.slice A5 n5 c5) _ (rgp.ra1 rfl rfl) (rgp.ea1 rfl (Below.refl _ _))
      refine fun w9 hc v0 h0 v1 h1 v2 h2 v3 h3 v5 h5 => ?_
      have h0 := rgp.ra1_out rfl h0
      obtain rfl : v0 = .agg (vcs ((runS (advS (start ⟨s, xs⟩) k))) (.slice A5 n5 c5)) := h0
      have h2 := rgp.ra1_out rfl h2
      obtain rfl : v2 = .pointer (some ⟨b9, 33, none⟩) := h2
      have h3 := rgp.ra1_out rfl h3
      obtain rfl : v3 = .slice A5 n5 c5 := h3
      have h5 := rgp.ra1_out rfl h5
      obtain rfl : v5 = .slice A5 n5 c5 := h5
      (try simp only [reg.Obs])
      intro hrf
      have h1 := rgp.ra1_out rfl h1
      obtain ⟨A7, n7, c7, f7, hi7, rfl, ho7⟩ := h1
      have hg := rgp.ra2_out (hrf (4, 29) (by simp) rfl)
      clear hrf
      obtain ⟨cs7, he7, hZ7⟩ := hg
      have he7 : cs7 = #[.int .i64 r5.Start, .slice A7 n7 c7] := (Value.agg.inj he7).symm
      subst he7
      (try simp only [Act.put, List.setIfInBounds_toArray, List.set_cons_zero, List.set_cons_succ])
      have HB := Lib.hid (B5.out.trans (ux.ks_bel hc.1 (fun q hq => by have h9 := List.mem_singleton.1 hq; omega) B5.out.size))
      have HOD := Lib.hid (HO5.out.ks hc.1 (fun q h1 h2 => by have h9 := List.mem_singleton.1 h2; have h8 := HFP5.out _ h1; have hs0 := LTX.out; have hs1 := LTZ.out; have hs2 := LHR.out; have hs3 := SS1.out; have hs4 := SS2.out; have hs5 := SS3.out; have hs6 := HL0.out; have hs7 := HB9.out; have hs8 := HLN.out; have hs9 := SS4.out; have hs10 := SS5.out; omega))
      have HO7 := Lib.hid ho7
      have HZ7 := Lib.hid hZ7
      have HSZ9 := Lib.hid hc.1.size
      clear hc ho7 hZ7
      go_wp2_with fail
      (try simp only [Exit.inBlock, Exit.then])
      refine bodyPost_ret (v := .tuple #[.agg #[.int .i64 r5.Start, .slice A7 n7 c7], .slice A5 n5 c5]) ?_ rfl ?_
      · rw [results_cell_tmp1 rfl]
        exact stw.back2 HZ7.out Try.underlying50 rfl ux.szRob _
      · (first | rw [HE.out] | rw [HR2.out, HE.out]); rw [HR5.out]; exact ⟨_, _, _, _, _, _, _, _, rfl, HO7.out.wide (by have h1 := B5.out.size; omega), oo_narrow (HOD.out.wide (Nat.le_refl _)) (fun q hq => by have h9 := HFP5.out q hq; have hs0 := LTX.out; have hs1 := LTZ.out; have hs2 := LHR.out; have hs3 := SS1.out; have hs4 := SS2.out; have hs5 := SS3.out; have hs6 := HL0.out; have hs7 := HB9.out; have hs8 := HLN.out; have hs9 := SS4.out; have hs10 := SS5.out; omega), fun q h1 h2 => by have h9 := (HO7.out.inn q h1).1; have h8 := (HO5.out.inn q h2).2; omega, HB.out⟩
    | false =>
      have HE := Lib.hid (show r2 = (⟨s, xs⟩, []) by rw [← HR2.out]; exact mvs_no (by unfold may; rw [HV.out, HD.out, HV2.out]; rfl))
      have cX0 : w1.cell? ⟨w.heap.size, 0, none⟩ = some (.int .i64 s) := X1.out.cell 0
      have cX1 : w1.cell? ⟨w.heap.size, 1, none⟩ = some (.slice A n c) := X1.out.cell 1
      go_wp2_with (refine stw.list_load rfl 50 _ rfl (w.heap.size) rfl 50 _ X1.out Try.underlying50 rfl ux.szRob ?_)
      clear cX0 cX1
      (with_reducible refine (implCp s xs lo hi A n c _ R1.out HN.out HBD.out).mono ?_)
      rintro e w2 hp
      obtain ⟨A3, n3, c3, f3, rfl, ho, hb⟩ := ro_parts hp
      clear hp
      have SS2 := Lib.hid hb.size
      have B2 := Lib.hid (B1.out.trans (hb.mono B1.out.size))
      have X2 := Lib.hid (X1.out.below hb)
      have Z2 := Lib.hid (Z1.out.below hb)
      have R2 := Lib.hid (R1.out.below hb)
      clear hb B1 X1 Z1 R1
      have O2 := Lib.hid ho
      clear ho
      obtain ⟨be, hbe⟩ : ∃ b, w2.heap.size = b := ⟨_, rfl⟩
      have hE := Bx.made 22 w2 #[]
      have hbE := bx.below_box w2 (.cells #[] 22)
      rw [hbe] at hE
      have HL9 := Lib.hid (show w.heap.size + 1 < be by have h1 := Z2.out.lt; omega)
      go_wp2_with (refine stw.list_store rfl 50 _ _ rfl (w.heap.size + 1) #[.int .i64 s, .slice A3 n3 c3] rfl rfl 50 _ (Z2.out.below hbE) rfl ux.szRob (ux.oneRob _ _ _ _) ?_; intro wz hz)
      have hB := hz.on (B2.out.trans (hbE.mono B2.out.size)) (show w.heap.size ≤ w.heap.size + 1 by omega)
      have hE2 := hz.keep hE (by have := HL9.out; omega)
      have hO : OO rowNf wz w.heap.size wz.heap.size f3 (.slice A3 n3 c3) xs := ((O2.out.below hbE).same hz.below.size fun b h1 h2 => hz.other b (by have hs0 := LTX.out; have hs1 := LTZ.out; have hs2 := LHR.out; have hs3 := SS1.out; have hs4 := SS2.out; omega)).wide (by have hs0 := LTX.out; have hs1 := LTZ.out; have hs2 := LHR.out; have hs3 := SS1.out; have hs4 := SS2.out; omega)
      (try simp only [Exit.inBlock, Exit.then])
      refine bodyPost_ret (v := .tuple #[.agg #[.int .i64 s, .slice A3 n3 c3], .slice (some ⟨be, 0, none⟩) 0 0]) ?_ rfl ?_
      · rw [results_cell_tmp1 rfl]
        exact stw.back2 hz.box Try.underlying50 rfl ux.szRob _
      · (first | rw [HE.out] | rw [HR2.out, HE.out]); exact ⟨_, _, _, _, _, _, _, _, rfl, hO, ((ux.row_empty 22 ux.bytes hE2).wide (by have := HL9.out; omega)), fun b h1 h2 => by have h3 := (O2.out.inn b h1).2; have h4 := List.mem_singleton.1 h2; omega, hB⟩
  | false =>
    have HE := Lib.hid (show r2 = (⟨s, xs⟩, []) by rw [← HR2.out]; exact mvs_no (by unfold may; rw [HV.out, HD.out, HV2.out]; rfl))
    have cX0 : w1.cell? ⟨w.heap.size, 0, none⟩ = some (.int .i64 s) := X1.out.cell 0
    have cX1 : w1.cell? ⟨w.heap.size, 1, none⟩ = some (.slice A n c) := X1.out.cell 1
    go_wp2_with (refine stw.list_load rfl 50 _ rfl (w.heap.size) rfl 50 _ X1.out Try.underlying50 rfl ux.szRob ?_)
    clear cX0 cX1
    (with_reducible refine (implCp s xs lo hi A n c _ R1.out HN.out HBD.out).mono ?_)
    rintro e w2 hp
    obtain ⟨A3, n3, c3, f3, rfl, ho, hb⟩ := ro_parts hp
    clear hp
    have SS2 := Lib.hid hb.size
    have B2 := Lib.hid (B1.out.trans (hb.mono B1.out.size))
    have X2 := Lib.hid (X1.out.below hb)
    have Z2 := Lib.hid (Z1.out.below hb)
    have R2 := Lib.hid (R1.out.below hb)
    clear hb B1 X1 Z1 R1
    have O2 := Lib.hid ho
    clear ho
    obtain ⟨be, hbe⟩ : ∃ b, w2.heap.size = b := ⟨_, rfl⟩
    have hE := Bx.made 22 w2 #[]
    have hbE := bx.below_box w2 (.cells #[] 22)
    rw [hbe] at hE
    have HL9 := Lib.hid (show w.heap.size + 1 < be by have h1 := Z2.out.lt; omega)
    go_wp2_with (refine stw.list_store rfl 50 _ _ rfl (w.heap.size + 1) #[.int .i64 s, .slice A3 n3 c3] rfl rfl 50 _ (Z2.out.below hbE) rfl ux.szRob (ux.oneRob _ _ _ _) ?_; intro wz hz)
    have hB := hz.on (B2.out.trans (hbE.mono B2.out.size)) (show w.heap.size ≤ w.heap.size + 1 by omega)
    have hE2 := hz.keep hE (by have := HL9.out; omega)
    have hO : OO rowNf wz w.heap.size wz.heap.size f3 (.slice A3 n3 c3) xs := ((O2.out.below hbE).same hz.below.size fun b h1 h2 => hz.other b (by have hs0 := LTX.out; have hs1 := LTZ.out; have hs2 := LHR.out; have hs3 := SS1.out; have hs4 := SS2.out; omega)).wide (by have hs0 := LTX.out; have hs1 := LTZ.out; have hs2 := LHR.out; have hs3 := SS1.out; have hs4 := SS2.out; omega)
    (try simp only [Exit.inBlock, Exit.then])
    refine bodyPost_ret (v := .tuple #[.agg #[.int .i64 s, .slice A3 n3 c3], .slice (some ⟨be, 0, none⟩) 0 0]) ?_ rfl ?_
    · rw [results_cell_tmp1 rfl]
      exact stw.back2 hz.box Try.underlying50 rfl ux.szRob _
    · (first | rw [HE.out] | rw [HR2.out, HE.out]); exact ⟨_, _, _, _, _, _, _, _, rfl, hO, ((ux.row_empty 22 ux.bytes hE2).wide (by have := HL9.out; omega)), fun b h1 h2 => by have h3 := (O2.out.inn b h1).2; have h4 := List.mem_singleton.1 h2; omega, hB⟩
end Go.Proofs.Ytejjafmppihneaa.ro
