/- A window turned into a buffer of the call's own, by the program. Condition: bodies fit. -/
import Derived.Test.YtejjafmppihneaaRo3
namespace Go.Proofs.Ytejjafmppihneaa.ro
open Go.RowKit sl harn bx stw
set_option linter.unusedVariables false
open ux (Nf Rob RR OO row rowB rowNf nf rob)
open mrw (blkOf)
open bs (nsq sqd)
set_option linter.unusedSimpArgs false

theorem index_win {ws : Win} {i : Nat} {o : Option (List Int)} (h : ws[i]? = some o) (hi : i < 16) (W : World) : (Instr.index 82 (.agg (wcs ws).toArray) (.int .i64 (i : Int))).run Try.prog W = .ok (.agg #[.bool o.isSome, .string (strOfNums (o.getD []))]) W := by
  have hx : ((wcs ws).drop (i * 2)).take 2 = [.bool o.isSome, .string (strOfNums (o.getD []))] := by rw [wcs_drop, drop_at h, wcs]; rfl
  cases hq : Try.prog.info? 80 with
  | none => have := szAr; simp [hq] at this
  | some t =>
    have hs : t.size = 2 := by have := szAr; simpa [hq] using this
    simp [Instr.index, run_underlying Try.underlying82, run_underlying Try.underlying80, part, sizeOf, typeInfo, hq, hs, go_sem, isAgg]
    rw [if_pos hi, hx]
theorem win_range {w : World} {b : Nat} {t : St} {hd : Value} (hX : Wn w b (vcs t hd)) : w.rangeAt b 1 (wcs t.ws) := fun j v hv => by
  rw [Bx.cell hX]; exact vcs_win hv
theorem szWin {ws : Win} (h : ws.length = 16) : (Try.prog.info? 82).map (·.size) = some (wcs ws).length := by rw [wcs_len, h]; kernel_rfl
theorem pend_snoc_none {s : Int} {ws : Win} {k : Nat} (h : ws[k]? = some none) : pend s (ws.take (k + 1)) = pend s (ws.take k) := by
  rw [List.take_add_one, h, pend_append]; simp [pend]
theorem pend_snoc_some {s : Int} {ws : Win} {k : Nat} {b : List Int} (h : ws[k]? = some (some b)) : pend s (ws.take (k + 1)) = pend s (ws.take k) ++ [⟨(s + (k : Int)) % 4096, b⟩] := by
  have hk := (List.getElem?_eq_some_iff.1 h).1
  rw [List.take_add_one, h, pend_append, List.length_take, Nat.min_eq_left (by omega)]; rfl
set_option maxRecDepth 100000 in
set_option maxHeartbeats 4000000 in
theorem implBuf (t : St) (hd : Value) (w : World) (h16 : t.ws.length = 16) (hs : 0 ≤ t.s ∧ t.s ≤ 4095) (hw : ∀ x, some x ∈ t.ws → Wf .u8 x ∧ x.length ≤ 100) :
    Calls Try.prog 77 #[.agg (vcs t hd)] w (RoPost (buf t) w) := by
  obtain ⟨s, ws, out⟩ := t
  simp only at h16 hs hw ⊢
  have HL := Lib.hid h16
  have HS := Lib.hid hs
  have HW := Lib.hid hw
  clear h16 hs hw
  obtain ⟨cs, hcs⟩ : ∃ cs, vcs ⟨s, ws, out⟩ hd = cs := ⟨_, rfl⟩
  have HCS := Lib.hid hcs
  rw [hcs]
  clear hcs
  obtain ⟨i0, hi0, hz0, hz1, hz2⟩ := info_parts infoNF
  have HZ := Lib.hid (And.intro hi0 (And.intro hz0 (And.intro hz1 hz2)))
  clear hi0 hz0 hz1 hz2
  go_enter Try.func77, Try.ntmps77
  go_upto_region 1 with fail
  obtain ⟨w0, hW⟩ : ∃ w0, (w.alloc (.cells cs 84)).alloc (.cells #[.int .i64 0, .slice none 0 0] 50) = w0 := ⟨_, rfl⟩
  rw [hW]
  have B0 := Lib.hid (show Below w.heap.size w w0 by rw [← hW]; exact ((Below.refl _ _).alloc (by simp <;> omega) _).alloc (by simp <;> omega) _)
  have X0 := Lib.hid (show Bx 84 w0 (w.heap.size) cs by
      rw [← hW]
      have hh := Bx.made 84 w cs
      exact (hh.below (below_box _ _)))
  have Z0 := Lib.hid (show Bx 50 w0 (w.heap.size + 1) #[.int .i64 0, .slice none 0 0] by
      rw [← hW]
      have hh : Bx 50 ((w.alloc (.cells cs 84)).alloc (.cells #[.int .i64 0, .slice none 0 0] 50)) (w.heap.size + 1) #[.int .i64 0, .slice none 0 0] := by have hh := Bx.made 50 (w.alloc (.cells cs 84)) #[.int .i64 0, .slice none 0 0]; simpa using hh
      exact hh)
  clear hW
  have LTX := Lib.hid X0.out.lt
  have LTZ := Lib.hid Z0.out.lt
  have Xq := Lib.hid (show Wn w0 w.heap.size (vcs ⟨s, ws, out⟩ hd) from by rw [HCS.out]; exact X0.out)
  clear X0
  have X0 := Xq
  clear Xq
  have cX0 : w0.cell? ⟨w.heap.size, 0, none⟩ = some (.int .i64 s) := (Bx.cell X0.out 0).trans rfl
  go_wp2_with fail
  clear cX0
  (with_reducible refine (implNew s _).mono ?_)
  rintro e w1 hp
  obtain ⟨A0, n0, c0_, f0, rfl, ho, hb⟩ := ro_parts hp
  clear hp
  have hnw : new s = ⟨s, []⟩ := by unfold new; rw [if_pos HS.out]
  rw [hnw] at ho ⊢
  obtain rfl : n0 = 0 := (nf_len ho.rd).1.symm
  clear hnw
  have SS1 := Lib.hid hb.size
  have B1 := Lib.hid (B0.out.trans (hb.mono B0.out.size))
  have Z1 := Lib.hid (Z0.out.below hb)
  have X1 := Lib.hid (X0.out.below hb)
  clear hb B0 Z0 X0
  have O1 := Lib.hid ho
  clear ho
  obtain ⟨b2, hbb⟩ : ∃ b, w1.heap.size = b := ⟨_, rfl⟩
  go_upto_region 2 with fail
  generalize hW : w1.alloc (.cells #[.int .i64 s, .slice A0 0 c0_] 50) = w2
  have LV := Lib.hid (show w.heap.size ≤ b2 ∧ w.heap.size + 1 < b2 ∧ (w.heap.size + 1) ≤ b2 ∧ w1.heap.size ≤ b2 by have h1 := B1.out.size; have h2Z := Z1.out.lt; have h2X := X1.out.hi_; have h2O := O1.out.hi_; have h3 := hbb; omega)
  have V2 := Lib.hid (show Bx 50 w2 b2 #[.int .i64 s, .slice A0 0 c0_] by rw [← hW, ← hbb]; exact Bx.made _ _ _)
  have hb : Below w1.heap.size w1 w2 := by rw [← hW]; exact below_box _ _
  (try rw [hbb])
  clear hW hbb
  have SS2 := Lib.hid hb.size
  have B2 := Lib.hid (B1.out.trans (hb.mono B1.out.size))
  have Z2 := Lib.hid (Z1.out.below hb)
  have X2 := Lib.hid (X1.out.below hb)
  have O2 := Lib.hid (O1.out.below hb)
  clear hb B1 Z1 X1 O1
  have LWV := Lib.hid V2.out.lt
  have NIV := Lib.hid (show b2 ∉ f0 from fun hm => by have h9 := (O2.out.inn _ hm).2; have h8 := LV.out; omega)
  have O2q := Lib.hid (show OO rowNf w2 w0.heap.size w2.heap.size f0 (.slice A0 0 c0_) [] from O2.out.wide (Nat.le_refl _))
  clear O2
  have O2 := O2q
  clear O2q
  have HVR := Lib.hid (show w.heap.size + 1 < w0.heap.size ∧ w0.heap.size ≤ b2 by have h1 := LTZ.out; have h2 := LV.out; have h3 := SS1.out; omega)
  go_wp2_with (refine wpList_load_mid rfl 82 _ rfl w.heap.size 1 rfl (wcs ws) _ (win_range X2.out) Try.underlying82 rfl (szWin HL.out) ?_)
  go_loopw [11] (fun v0 wr => ∃ (k : Nat) (A1 : Option Addr) (m : Nat) (c1 : Nat) (f : List Nat), v0 = .int .i64 ((k : Int)) ∧ (k ≤ 16) ∧ (b2 ∉ f) ∧ Below w.heap.size w wr ∧ Bx 50 wr (w.heap.size + 1) #[.int .i64 0, .slice none 0 0] ∧ Bx 50 wr b2 #[.int .i64 s, .slice A1 m c1] ∧ Wn wr w.heap.size (vcs ⟨s, ws, out⟩ hd) ∧ OO rowNf wr w0.heap.size wr.heap.size f (.slice A1 m c1) ((pend s (ws.take k)))) (fun i _ => 16 - (intOf i).toNat)
  case atStart => exact ⟨0, A0, 0, c0_, f0, rfl, by omega, NIV.out, B2.out, Z2.out, V2.out, X2.out, O2.out⟩
  case round =>
    obtain ⟨k, A1, m, c1, f, rfl, ghk, ghvf, gB3, gZ3, gV3, gX3, gO3⟩ := hrel
    have B3 := Lib.hid gB3
    have Z3 := Lib.hid gZ3
    have V3 := Lib.hid gV3
    have X3 := Lib.hid gX3
    have O3 := Lib.hid gO3
    have hk := Lib.hid ghk
    have hvf := Lib.hid ghvf
    clear gB3 gZ3 gV3 gX3 gO3 ghk ghvf
    have LUZ3 := Lib.hid Z3.out.lt
    have LUV3 := Lib.hid V3.out.lt
    have SBR3 := Lib.hid B3.out.size
    have hk9 := hk.out
    have LTV := LUV3
    by_cases hlt : k < 16
    · have hlt2 : (k : Int) < 16 := by omega
      obtain ⟨o, ho⟩ : ∃ o, ws[k]? = some o := ⟨_, List.getElem?_eq_getElem (by rw [HL.out]; exact hlt)⟩
      have hix := index_win ho hlt
      have HE := Lib.hid ho
      have HM := Lib.hid (show m ≤ 16 by have h1 := (nf_len O3.out.rd).1; have h2 := pend_len (ws.take k) s; rw [List.length_take] at h2; omega)
      clear ho
      obtain ⟨b4, hbb⟩ : ∃ b, wr.heap.size = b := ⟨_, rfl⟩
      go_upto_region 5 with fail
      generalize hW : wr.alloc (.cells #[.bool o.isSome, .string (strOfNums (o.getD []))] 80) = w4
      have LY := Lib.hid (show w.heap.size ≤ b4 ∧ w.heap.size + 1 < b4 ∧ b2 < b4 ∧ (w.heap.size + 1) ≤ b4 ∧ wr.heap.size ≤ b4 by have h1 := B3.out.size; have h2Z := Z3.out.lt; have h2V := V3.out.lt; have h2X := X3.out.hi_; have h2O := O3.out.hi_; have h3 := hbb; omega)
      have Y4 := Lib.hid (show Bx 80 w4 b4 #[.bool o.isSome, .string (strOfNums (o.getD []))] by rw [← hW, ← hbb]; exact Bx.made _ _ _)
      have hb : Below wr.heap.size wr w4 := by rw [← hW]; exact below_box _ _
      (try rw [hbb])
      clear hW hbb
      have SS4 := Lib.hid hb.size
      have B4 := Lib.hid (B3.out.trans (hb.mono B3.out.size))
      have Z4 := Lib.hid (Z3.out.below hb)
      have V4 := Lib.hid (V3.out.below hb)
      have X4 := Lib.hid (X3.out.below hb)
      have O4 := Lib.hid (O3.out.below hb)
      clear hb B3 Z3 V3 X3 O3
      have LWY := Lib.hid Y4.out.lt
      clear hix
      cases o with
      | none =>
        have O4q := Lib.hid (show OO rowNf w4 w0.heap.size w4.heap.size f (.slice A1 m c1) (pend s (ws.take k)) from O4.out.wide (Nat.le_refl _))
        have cY0 : w4.cell? ⟨b4, 0, none⟩ = some (.bool false) := Y4.out.cell 0
        go_wp2_with fail
        clear cY0
        have Yq := Lib.hid (show Bx 80 w4 b4 #[.bool false, .string (strOfNums [])] from Y4.out)
        clear Y4
        have Y4 := Yq
        clear Yq
        go_roundw
        case rel => exact ⟨k + 1, A1, m, c1, f, by go_num, by omega, hvf.out, B4.out, Z4.out, V4.out, X4.out, (by rw [pend_snoc_none HE.out]; exact O4q.out)⟩
        case measure => simp [intOf]; omega
      | some x =>
        have cY0 : w4.cell? ⟨b4, 0, none⟩ = some (.bool true) := Y4.out.cell 0
        go_wp2_with fail
        clear cY0
        have Yq := Lib.hid (show Bx 80 w4 b4 #[.bool true, .string (strOfNums x)] from Y4.out)
        clear Y4
        have Y4 := Yq
        clear Yq
        have HWX := Lib.hid (HW.out x (List.mem_of_getElem? HE.out))
        have LTV2 := Lib.hid V4.out.lt
        have LTnV := Lib.hid V4.out.lt
        have HO0 := Lib.hid (show OO (row 90 nf) w4 0 w4.heap.size f (.slice A1 m c1) ((pend s (ws.take k))) from O4.out.wide (Nat.zero_le _))
        refine rgp.region_tailE (rgp.EA 11 reg.Bel (ux.ApU nf 90 w4.heap.size f A1 m c1 (pend s (ws.take k)))) 12 32 [some [], some [(0, 17)], some [], some [(2, 19)], some [], some [(3, 20), (4, 21)], some [], some [(6, 23)], some [(7, 24)], some [(5, 22), (8, 25)], some [(9, 26)], some [(1, 18), (10, 27)], none, none] [(0, 17), (1, 18), (2, 19), (3, 20), (4, 21), (5, 22), (6, 23), (7, 24), (8, 25), (9, 26), (10, 27), (11, 28)]
          (ux.CU nf 90 w4.heap.size f A1 m c1 (pend s (ws.take k)) w4)
          (rgp.RA 11 [rgp.is (.pointer (some ⟨b2, 1, none⟩)), rgp.is (.slice A1 m c1), rgp.is (.pointer (some ⟨w.heap.size, 0, none⟩)), rgp.is (.int .i64 s), rgp.is (.int .i64 ((k : Int))), rgp.is (.int .i64 (((s + (k : Int)) % 4096))), rgp.is (.pointer (some ⟨b4, 1, none⟩)), rgp.is (.string (strOfNums x)), ux.elU nf 90 w4.heap.size f A1 m c1 (pend s (ws.take k)) ux.bytes (x), ux.elU nf 90 w4.heap.size f A1 m c1 (pend s (ws.take k)) nf (⟨(s + (k : Int)) % 4096, x⟩), ux.oneU nf 90 w4.heap.size f A1 m c1 (pend s (ws.take k)) ((⟨(s + (k : Int)) % 4096, x⟩ : Nf)), rgp.val fun _ => True] (ux.newU nf 90 w4.heap.size f m (pend s (ws.take k)) ((⟨(s + (k : Int)) % 4096, x⟩ : Nf))))
          (by kernel_rfl) rfl (by kernel_rfl) (by kernel_rfl) rfl
          (ux.cu_keep nf 90 w4.heap.size f A1 m c1 (pend s (ws.take k)) 11 w4)
          (rgp.ra_keep (ux.newU_keep nf 90 w4.heap.size f m (pend s (ws.take k)) ((⟨(s + (k : Int)) % 4096, x⟩ : Nf)))) (ux.cu_start nf 90 w4.heap.size f A1 m c1 (pend s (ws.take k)) HO0.out) (by kernel_rfl) ⟨?_, ?_, ?_, ?_, ?_, ?_, ?_, ?_, ?_, ?_, ?_, ?_, trivial⟩ ?_
        · refine fun w8 hc  K hK => ?_
          (try simp only [Act.put, List.setIfInBounds_toArray, List.set_cons_zero, List.set_cons_succ])
          go_simp
          exact hK (.pointer (some ⟨b2, 1, none⟩)) _ (rgp.ra1 rfl rfl) (rgp.ea1 rfl (Below.refl _ _))
        · refine fun w8 hc v0 h0 K hK => ?_
          have h0 := rgp.ra1_out rfl h0
          obtain rfl : v0 = .pointer (some ⟨b2, 1, none⟩) := h0
          (try simp only [Act.put, List.setIfInBounds_toArray, List.set_cons_zero, List.set_cons_succ])
          have c0 := (ux.bx_ks V4.out hc.1 hvf.out).cell 1
          go_simp
          exact hK (.slice A1 m c1) _ (rgp.ra1 rfl rfl) (rgp.ea1 rfl (Below.refl _ _))
        · refine fun w8 hc  K hK => ?_
          (try simp only [Act.put, List.setIfInBounds_toArray, List.set_cons_zero, List.set_cons_succ])
          go_simp
          exact hK (.pointer (some ⟨w.heap.size, 0, none⟩)) _ (rgp.ra1 rfl rfl) (rgp.ea1 rfl (Below.refl _ _))
        · refine fun w8 hc v2 h2 K hK => ?_
          have h2 := rgp.ra1_out rfl h2
          obtain rfl : v2 = .pointer (some ⟨w.heap.size, 0, none⟩) := h2
          (try simp only [Act.put, List.setIfInBounds_toArray, List.set_cons_zero, List.set_cons_succ])
          have c0 : w8.cell? ⟨w.heap.size, 0, none⟩ = some (.int .i64 s) := (Bx.cell (Wn.ks X4.out hc.1 (fun c h1 h2 hm => by have hlV := LV.out; have hlY := LY.out; have hs0 := LTX.out; have hs1 := LTZ.out; have hs2 := SS1.out; have hs3 := SS2.out; have hs4 := LWV.out; have hs5 := HVR.out; have hs6 := LUZ3.out; have hs7 := LUV3.out; have hs8 := SBR3.out; have hs9 := SS4.out; have hs10 := LWY.out; have h9 := O4.out.inn _ hm; omega)) 0).trans rfl
          go_simp
          exact hK (.int .i64 s) _ (rgp.ra1 rfl rfl) (rgp.ea1 rfl (Below.refl _ _))
        · refine fun w8 hc  K hK => ?_
          (try simp only [Act.put, List.setIfInBounds_toArray, List.set_cons_zero, List.set_cons_succ])
          go_simp
          exact hK (.int .i64 ((k : Int))) _ (rgp.ra1 rfl rfl) (rgp.ea1 rfl (Below.refl _ _))
        · refine fun w8 hc v3 h3 v4 h4 K hK => ?_
          have h3 := rgp.ra1_out rfl h3
          obtain rfl : v3 = .int .i64 s := h3
          have h4 := rgp.ra1_out rfl h4
          obtain rfl : v4 = .int .i64 ((k : Int)) := h4
          (try simp only [Act.put, List.setIfInBounds_toArray, List.set_cons_zero, List.set_cons_succ])
          have hcp8 := bs.seqA s (k : Int) w8 HS.out ⟨by omega, by omega⟩
          go_simp
          (with_reducible refine hcp8.mono ?_)
          rintro e w3 ⟨rfl, rfl⟩
          exact hK _ _ (rgp.ra1 rfl rfl) (rgp.ea1 rfl (Below.refl _ _))
        · refine fun w8 hc  K hK => ?_
          (try simp only [Act.put, List.setIfInBounds_toArray, List.set_cons_zero, List.set_cons_succ])
          go_simp
          exact hK (.pointer (some ⟨b4, 1, none⟩)) _ (rgp.ra1 rfl rfl) (rgp.ea1 rfl (Below.refl _ _))
        · refine fun w8 hc v6 h6 K hK => ?_
          have h6 := rgp.ra1_out rfl h6
          obtain rfl : v6 = .pointer (some ⟨b4, 1, none⟩) := h6
          (try simp only [Act.put, List.setIfInBounds_toArray, List.set_cons_zero, List.set_cons_succ])
          have c0 : w8.cell? ⟨b4, 1, none⟩ = some (.string (strOfNums x)) := (ux.bx_ks Y4.out hc.1 (fun hm => by have hlV := LV.out; have hlY := LY.out; have hs0 := LTX.out; have hs1 := LTZ.out; have hs2 := SS1.out; have hs3 := SS2.out; have hs4 := LWV.out; have hs5 := HVR.out; have hs6 := LUZ3.out; have hs7 := LUV3.out; have hs8 := SBR3.out; have hs9 := SS4.out; have hs10 := LWY.out; have h9 := O4.out.inn _ hm; omega)).cell 1
          go_simp
          exact hK (.string (strOfNums x)) _ (rgp.ra1 rfl rfl) (rgp.ea1 rfl (Below.refl _ _))
        · refine fun w8 hc v7 h7 K hK => ?_
          have h7 := rgp.ra1_out rfl h7
          obtain rfl : v7 = .string (strOfNums x) := h7
          (try simp only [Act.put, List.setIfInBounds_toArray, List.set_cons_zero, List.set_cons_succ])
          obtain ⟨cN, w5, hrun, hom, hb5⟩ := conv_back HWX.out.1 (by have := HWX.out.2; omega) w8
          go_simp
          exact hK _ _ (rgp.ra1 rfl ⟨_, _, _, hc.2.hi_, ux.num_om hom⟩) (rgp.ea1 rfl hb5)
        · refine fun w8 hc v5 h5 v8 h8 K hK => ?_
          have h5 := rgp.ra1_out rfl h5
          obtain rfl : v5 = .int .i64 (((s + (k : Int)) % 4096)) := h5
          have h8 := rgp.ra1_out rfl h8
          obtain ⟨fe8, lo8, hi8, hl8, ho8⟩ := h8
          obtain ⟨Ae8, ne8, ce8, rfl⟩ := ux.bytes_slo ho8.1
          (try simp only [Act.put, List.setIfInBounds_toArray, List.set_cons_zero, List.set_cons_succ])
          go_simp
          exact hK (ux.nfV (⟨(s + (k : Int)) % 4096, x⟩ : Nf) (.slice Ae8 ne8 ce8)) _ (rgp.ra1 rfl ⟨fe8, lo8, hi8, hl8, ux.nf_mk (x := (⟨(s + (k : Int)) % 4096, x⟩ : Nf)) ho8 (ux.bytes.nd ho8.1)⟩) (rgp.ea1 rfl (Below.refl _ _))
        · refine fun w8 hc v9 h9 K hK => ?_
          have h9 := rgp.ra1_out rfl h9
          obtain ⟨fe9, lo9, hi9, hl9, ho9⟩ := h9
          obtain ⟨Ae9, ne9, ce9, fz9, rfl, _, _, _⟩ := ux.nf_o ho9
          (try simp only [Act.put, List.setIfInBounds_toArray, List.set_cons_zero, List.set_cons_succ])
          go_simp
          exact hK (.slice (some ⟨w8.heap.size, 0, none⟩) 1 1) _ (rgp.ra1 rfl ⟨w8.heap.size, 1, ux.nfV (⟨(s + (k : Int)) % 4096, x⟩ : Nf) (.slice Ae9 ne9 ce9), fe9, lo9, hi9, rfl, hc.2.hi_, Bx.made _ _ _, hl9, ho9.below (bx.below_box _ _)⟩) (rgp.ea1 rfl (bx.below_box _ _))
        · refine fun w8 hc v1 h1 v10 h10 K hK => ?_
          have h1 := rgp.ra1_out rfl h1
          obtain rfl : v1 = .slice A1 m c1 := h1
          have h10 := rgp.ra1_out rfl h10
          obtain ⟨q10, cq10, u10, fe10, lo10, hi10, rfl, hq10, hX10, hl10, ho10⟩ := h10
          (try simp only [Act.put, List.setIfInBounds_toArray, List.set_cons_zero, List.set_cons_succ])
          rw [if_pos (by rfl)]
          refine ux.wp_push (S := nf) (T := 90) _ _ 48 rfl Try.underlying48 HZ.out.1 HZ.out.2.1 HZ.out.2.2.1 (by rw [HZ.out.2.2.2]; omega) rfl rfl rfl hc.2 ((⟨(s + (k : Int)) % 4096, x⟩ : Nf)) ho10 hl10 hX10 (by have := HM.out; omega) ?_
          intro A4 c4 w4 hn4 hp4
          exact hK _ _ (rgp.ra2 hn4) (rgp.ea2 hp4)
        refine fun wg5 hc v0 h0 v1 h1 v2 h2 v3 h3 v4 h4 v5 h5 v6 h6 v7 h7 v8 h8 v9 h9 v10 h10 v11 h11 => ?_
        have h0 := rgp.ra1_out rfl h0
        obtain rfl : v0 = .pointer (some ⟨b2, 1, none⟩) := h0
        have h1 := rgp.ra1_out rfl h1
        obtain rfl : v1 = .slice A1 m c1 := h1
        have h2 := rgp.ra1_out rfl h2
        obtain rfl : v2 = .pointer (some ⟨w.heap.size, 0, none⟩) := h2
        have h3 := rgp.ra1_out rfl h3
        obtain rfl : v3 = .int .i64 s := h3
        have h4 := rgp.ra1_out rfl h4
        obtain rfl : v4 = .int .i64 ((k : Int)) := h4
        have h5 := rgp.ra1_out rfl h5
        obtain rfl : v5 = .int .i64 (((s + (k : Int)) % 4096)) := h5
        have h6 := rgp.ra1_out rfl h6
        obtain rfl : v6 = .pointer (some ⟨b4, 1, none⟩) := h6
        have h7 := rgp.ra1_out rfl h7
        obtain rfl : v7 = .string (strOfNums x) := h7
        have h8 := rgp.ra1_out rfl h8
        obtain ⟨fe8, lo8, hi8, hl8, ho8⟩ := h8
        obtain ⟨Ae8, ne8, ce8, rfl⟩ := ux.bytes_slo ho8.1
        have h9 := rgp.ra1_out rfl h9
        obtain ⟨fe9, lo9, hi9, hl9, ho9⟩ := h9
        obtain ⟨Ae9, ne9, ce9, fz9, rfl, _, _, _⟩ := ux.nf_o ho9
        have h10 := rgp.ra1_out rfl h10
        obtain ⟨q10, cq10, u10, fe10, lo10, hi10, rfl, hq10, hX10, hl10, ho10⟩ := h10
        have h11 := rgp.ra2_out h11
        obtain ⟨A3, c3, f3, hi3, rfl, hO3, hf3⟩ := h11
        (try simp only [reg.Obs])
        (try simp only [Act.put, List.setIfInBounds_toArray, List.set_cons_zero, List.set_cons_succ])
        simp only [List.drop_succ_cons, List.drop_zero]
        have SS5 := Lib.hid hc.1.size
        have B5 := Lib.hid (B4.out.trans (ux.ks_bel hc.1 (fun b hb => by have hlV := LV.out; have hlY := LY.out; have hs0 := LTX.out; have hs1 := LTZ.out; have hs2 := SS1.out; have hs3 := SS2.out; have hs4 := LWV.out; have hs5 := HVR.out; have hs6 := LUZ3.out; have hs7 := LUV3.out; have hs8 := SBR3.out; have hs9 := SS4.out; have hs10 := LWY.out; have h9 := O4.out.inn b hb; omega) B4.out.size))
        have Z5 := Lib.hid (ux.bx_ks Z4.out hc.1 (fun hm => by have hlV := LV.out; have hlY := LY.out; have hs0 := LTX.out; have hs1 := LTZ.out; have hs2 := SS1.out; have hs3 := SS2.out; have hs4 := LWV.out; have hs5 := HVR.out; have hs6 := LUZ3.out; have hs7 := LUV3.out; have hs8 := SBR3.out; have hs9 := SS4.out; have hs10 := LWY.out; have h9 := O4.out.inn _ hm; omega))
        have V5 := Lib.hid (ux.bx_ks V4.out hc.1 hvf.out)
        have Y5 := Lib.hid (ux.bx_ks Y4.out hc.1 (fun hm => by have hlV := LV.out; have hlY := LY.out; have hs0 := LTX.out; have hs1 := LTZ.out; have hs2 := SS1.out; have hs3 := SS2.out; have hs4 := LWV.out; have hs5 := HVR.out; have hs6 := LUZ3.out; have hs7 := LUV3.out; have hs8 := SBR3.out; have hs9 := SS4.out; have hs10 := LWY.out; have h9 := O4.out.inn _ hm; omega))
        have X5 := Lib.hid (X4.out.ks hc.1 (fun b h1 h2 h3 => by have hlV := LV.out; have hlY := LY.out; have hs0 := LTX.out; have hs1 := LTZ.out; have hs2 := SS1.out; have hs3 := SS2.out; have hs4 := LWV.out; have hs5 := HVR.out; have hs6 := LUZ3.out; have hs7 := LUV3.out; have hs8 := SBR3.out; have hs9 := SS4.out; have hs10 := LWY.out; have h9 := O4.out.inn b h3; omega))
        have HF3 := Lib.hid hf3
        have O5 := Lib.hid (show OO rowNf wg5 w0.heap.size wg5.heap.size f3 (.slice A3 (m + 1) c3) (((pend s (ws.take k))) ++ [(⟨(s + (k : Int)) % 4096, x⟩ : Nf)]) from oo_narrow (hO3.wide (Nat.zero_le _)) (fun b hb => by have hlV := LV.out; have hlY := LY.out; have hs0 := LTX.out; have hs1 := LTZ.out; have hs2 := SS1.out; have hs3 := SS2.out; have hs4 := LWV.out; have hs5 := HVR.out; have hs6 := LUZ3.out; have hs7 := LUV3.out; have hs8 := SBR3.out; have hs9 := SS4.out; have hs10 := LWY.out; have h7 := hf3 b hb; rcases h7 with h7 | h7; exact (O4.out.inn b h7).1; omega))
        clear hO3 hf3 hc HO0 B4 Z4 V4 Y4 X4 O4
        have NIV5 := Lib.hid (show b2 ∉ f3 from fun hm => by rcases HF3.out _ hm with h9 | h9; exact hvf.out h9; (have h8 := LTnV.out; omega))
        have cV1 : wg5.cell? ⟨b2, 1, none⟩ = some (.slice A1 m c1) := V5.out.cell 1
        have fV1 : wg5.frozen? ⟨b2, 1, none⟩ = false := V5.out.free 1
        go_wp2_with fail
        clear cV1 fV1
        have hWW : (wg5.setCell ⟨b2, 1, none⟩ (.slice A3 (m + 1) c3)) = (wg5.setCell ⟨b2, 1, none⟩ (.slice A3 (m + 1) c3)) := rfl
        obtain ⟨w6, hW⟩ : ∃ wy, (wg5.setCell ⟨b2, 1, none⟩ (.slice A3 (m + 1) c3)) = wy := ⟨_, rfl⟩
        rw [hW]
        clear hWW
        have B6 := Lib.hid (show Below w.heap.size w w6 by rw [← hW]; exact (B5.out.setCell (p := ⟨b2, 1, none⟩) (by have hlV := LV.out; have hlY := LY.out; have hs0 := LTX.out; have hs1 := LTZ.out; have hs2 := SS1.out; have hs3 := SS2.out; have hs4 := LWV.out; have hs5 := HVR.out; have hs6 := LUZ3.out; have hs7 := LUV3.out; have hs8 := SBR3.out; have hs9 := SS4.out; have hs10 := LWY.out; have hs11 := SS5.out; first | omega | (simp <;> omega)) _))
        have Z6 := Lib.hid (show Bx 50 w6 (w.heap.size + 1) #[.int .i64 0, .slice none 0 0] by rw [← hW]; exact (Z5.out.other (by have hlV := LV.out; have hlY := LY.out; have hs0 := LTX.out; have hs1 := LTZ.out; have hs2 := SS1.out; have hs3 := SS2.out; have hs4 := LWV.out; have hs5 := HVR.out; have hs6 := LUZ3.out; have hs7 := LUV3.out; have hs8 := SBR3.out; have hs9 := SS4.out; have hs10 := LWY.out; have hs11 := SS5.out; first | omega | (simp <;> omega)) _ _))
        have V6 := Lib.hid (show Bx 50 w6 (b2) #[.int .i64 s, .slice A3 (m + 1) c3] by rw [← hW]; exact (V5.out.set 1 _))
        have Y6 := Lib.hid (show Bx 80 w6 (b4) #[.bool true, .string (strOfNums x)] by rw [← hW]; exact (Y5.out.other (by have hlV := LV.out; have hlY := LY.out; have hs0 := LTX.out; have hs1 := LTZ.out; have hs2 := SS1.out; have hs3 := SS2.out; have hs4 := LWV.out; have hs5 := HVR.out; have hs6 := LUZ3.out; have hs7 := LUV3.out; have hs8 := SBR3.out; have hs9 := SS4.out; have hs10 := LWY.out; have hs11 := SS5.out; first | omega | (simp <;> omega)) _ _))
        have X6 := Lib.hid (show Wn w6 w.heap.size (vcs ⟨s, ws, out⟩ hd) by rw [← hW]; exact (X5.out.same (by simp [World.setCell]) fun b h1 h2 => by rw [Below.heap_setCell _ _ _ _ (by have hlV := LV.out; have hlY := LY.out; have hs0 := LTX.out; have hs1 := LTZ.out; have hs2 := SS1.out; have hs3 := SS2.out; have hs4 := LWV.out; have hs5 := HVR.out; have hs6 := LUZ3.out; have hs7 := LUV3.out; have hs8 := SBR3.out; have hs9 := SS4.out; have hs10 := LWY.out; have hs11 := SS5.out; first | omega | (simp <;> omega))]))
        have O6 := Lib.hid (show OO rowNf w6 w0.heap.size wg5.heap.size f3 (.slice A3 (m + 1) c3) (((pend s (ws.take k)) ++ [(⟨(s + (k : Int)) % 4096, x⟩ : Nf)])) by rw [← hW]; exact (O5.out.ks (ux.ks_set (F := [b2]) (List.mem_singleton.2 rfl) 1 _) (fun q8 h8 h9 => NIV5.out (by rw [← List.mem_singleton.1 h9]; exact h8))))
        clear hW B5 Z5 V5 Y5 X5 O5
        go_roundw
        case rel => exact ⟨k + 1, A3, m + 1, c3, f3, by go_num, by omega, NIV5.out, B6.out, Z6.out, V6.out, X6.out, (by rw [pend_snoc_some HE.out]; exact O6.out.wide (Nat.le_refl _))⟩
        case measure => simp [intOf]; omega
    · have hlt2 : ¬ (k : Int) < 16 := by omega
      obtain rfl : k = 16 := by omega
      have HF := Lib.hid (show ws.take 16 = ws from List.take_of_length_le (by rw [HL.out]; exact Nat.le_refl _))
      have cV0 : wr.cell? ⟨b2, 0, none⟩ = some (.int .i64 s) := V3.out.cell 0
      have cV1 : wr.cell? ⟨b2, 1, none⟩ = some (.slice A1 m c1) := V3.out.cell 1
      go_wp2_with (first | (refine stw.list_store rfl 50 _ _ rfl (w.heap.size + 1) #[.int .i64 s, .slice A1 m c1] rfl rfl 50 _ Z3.out rfl ux.szRob (ux.oneRob _ _ _ _) ?_; intro wz4 hz))
      clear cV0 cV1
      have B4 := Lib.hid (hz.on B3.out (by have hlV := LV.out; have hs0 := LTX.out; have hs1 := LTZ.out; have hs2 := SS1.out; have hs3 := SS2.out; have hs4 := LWV.out; have hs5 := HVR.out; have hs6 := LUZ3.out; have hs7 := LUV3.out; have hs8 := SBR3.out; first | omega | (simp <;> omega)))
      have Z4 := Lib.hid (hz.box)
      have V4 := Lib.hid (hz.keep V3.out (by have hlV := LV.out; have hs0 := LTX.out; have hs1 := LTZ.out; have hs2 := SS1.out; have hs3 := SS2.out; have hs4 := LWV.out; have hs5 := HVR.out; have hs6 := LUZ3.out; have hs7 := LUV3.out; have hs8 := SBR3.out; first | omega | (simp <;> omega)))
      have X4 := Lib.hid (X3.out.same hz.below.size fun b h1 h2 => hz.other b (by have hlV := LV.out; have hs0 := LTX.out; have hs1 := LTZ.out; have hs2 := SS1.out; have hs3 := SS2.out; have hs4 := LWV.out; have hs5 := HVR.out; have hs6 := LUZ3.out; have hs7 := LUV3.out; have hs8 := SBR3.out; first | omega | (simp <;> omega)))
      have O4 := Lib.hid (O3.out.same hz.below.size fun b h1 h2 => hz.other b (by have hlV := LV.out; have hs0 := LTX.out; have hs1 := LTZ.out; have hs2 := SS1.out; have hs3 := SS2.out; have hs4 := LWV.out; have hs5 := HVR.out; have hs6 := LUZ3.out; have hs7 := LUV3.out; have hs8 := SBR3.out; first | omega | (simp <;> omega)))
      clear hz B3 Z3 V3 X3 O3
      (try simp only [Exit.inBlock, Exit.then])
      refine bodyPost_ret (v := .agg #[.int .i64 s, .slice A1 m c1]) ?_ rfl ?_
      · rw [results_cell1 rfl]
        exact stw.back Z4.out Try.underlying50 rfl ux.szRob
      · exact ⟨_, _, _, _, rfl, by show OO rowNf _ _ _ _ _ (pend s ws); rw [← HF.out]; exact O4.out.wide (by have hlV := LV.out; have hs0 := LTX.out; have hs1 := LTZ.out; have hs2 := SS1.out; have hs3 := SS2.out; have hs4 := LWV.out; have hs5 := HVR.out; have hs6 := LUZ3.out; have hs7 := LUV3.out; have hs8 := SBR3.out; omega), B4.out⟩
end Go.Proofs.Ytejjafmppihneaa.ro
