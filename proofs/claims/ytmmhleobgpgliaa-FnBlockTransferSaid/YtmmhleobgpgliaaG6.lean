/- Merged texts of this seat. Ro4: A window turned into a buffer of the call's own, by the program. Condition: bodies fit. | Ro5: What ReceiveNumbered and MoveStart hand back; the region that ends them. Condition: none. | Ro6: MoveStart and ReceiveNumbered of the program. Condition: sizes up to 2^26. | Ms0: An append onto a slice of numbers of the call's own, told exactly; windows compared with the empty one. Condition: none. | Rg3: Copies of buffers, by the specification. Condition: sizes up to 2^26. -/
import Derived.ChangeKeysEq
import Derived.Laws.StructEq
import Derived.Test.YtmmhleobgpgliaaG5
section
namespace Go.Proofs.Ytmmhleobgpgliaa.ro
open Go.RowKit sl harn bx stw
set_option linter.unusedVariables false
open ux (Nf Rob RR OO row rowB rowNf nf rob)
open mrw (blkOf)
open bs (nsq sqd)
set_option linter.unusedSimpArgs false

theorem index_win {ws : Win} {i : Nat} {o : Option (List Int)} (h : ws[i]? = some o) (hi : i < 16) (W : World) : (Instr.index 76 (.agg (wcs ws).toArray) (.int .i64 (i : Int))).run Try.prog W = .ok (.agg #[.bool o.isSome, .string (strOfNums (o.getD []))]) W := by
  have hx : ((wcs ws).drop (i * 2)).take 2 = [.bool o.isSome, .string (strOfNums (o.getD []))] := by rw [wcs_drop, drop_at h, wcs]; rfl
  cases hq : Try.prog.info? 74 with
  | none => have := szAr; simp [hq] at this
  | some t =>
    have hs : t.size = 2 := by have := szAr; simpa [hq] using this
    simp [Instr.index, run_underlying Try.underlying76, run_underlying Try.underlying74, part, sizeOf, typeInfo, hq, hs, go_sem, isAgg]
    rw [if_pos hi, hx]
theorem win_range {w : World} {b : Nat} {t : St} {hd : Value} (hX : Wn w b (vcs t hd)) : w.rangeAt b 1 (wcs t.ws) := fun j v hv => by
  rw [Bx.cell hX]; exact vcs_win hv
theorem szWin {ws : Win} (h : ws.length = 16) : (Try.prog.info? 76).map (·.size) = some (wcs ws).length := by rw [wcs_len, h]; kernel_rfl
theorem pend_snoc_none {s : Int} {ws : Win} {k : Nat} (h : ws[k]? = some none) : pend s (ws.take (k + 1)) = pend s (ws.take k) := by
  rw [List.take_add_one, h, pend_append]; simp [pend]
theorem pend_snoc_some {s : Int} {ws : Win} {k : Nat} {b : List Int} (h : ws[k]? = some (some b)) : pend s (ws.take (k + 1)) = pend s (ws.take k) ++ [⟨(s + (k : Int)) % 4096, b⟩] := by
  have hk := (List.getElem?_eq_some_iff.1 h).1
  rw [List.take_add_one, h, pend_append, List.length_take, Nat.min_eq_left (by omega)]; rfl
set_option maxRecDepth 100000 in
set_option maxHeartbeats 4000000 in
theorem implBuf (t : St) (hd : Value) (w : World) (h16 : t.ws.length = 16) (hs : 0 ≤ t.s ∧ t.s ≤ 4095) (hw : ∀ x, some x ∈ t.ws → Wf .u8 x ∧ x.length ≤ 100) :
    Calls Try.prog 66 #[.agg (vcs t hd)] w (RoPost (buf t) w) := by
  obtain ⟨s, ws, out⟩ := t
  simp only at h16 hs hw ⊢
  have HL := Lib.hid h16
  have HS := Lib.hid hs
  have HW := Lib.hid hw
  clear h16 hs hw
  obtain ⟨cs, hcs⟩ : ∃ cs, vcs ⟨s, ws, out⟩ hd = cs := ⟨_, rfl⟩
  have HCS := Lib.hid hcs
  rw [hcs]
  clear hcs
  obtain ⟨i0, hi0, hz0, hz1, hz2⟩ := info_parts infoNF
  have HZ := Lib.hid (And.intro hi0 (And.intro hz0 (And.intro hz1 hz2)))
  clear hi0 hz0 hz1 hz2
  go_enter Try.func66, Try.ntmps66
  go_upto_region 1 with fail
  obtain ⟨w0, hW⟩ : ∃ w0, (w.alloc (.cells cs 78)).alloc (.cells #[.int .i64 0, .slice none 0 0] 31) = w0 := ⟨_, rfl⟩
  rw [hW]
  have B0 := Lib.hid (show Below w.heap.size w w0 by rw [← hW]; exact ((Below.refl _ _).alloc (by simp <;> omega) _).alloc (by simp <;> omega) _)
  have X0 := Lib.hid (show Bx 78 w0 (w.heap.size) cs by
      rw [← hW]
      have hh := Bx.made 78 w cs
      exact (hh.below (below_box _ _)))
  have Z0 := Lib.hid (show Bx 31 w0 (w.heap.size + 1) #[.int .i64 0, .slice none 0 0] by
      rw [← hW]
      have hh : Bx 31 ((w.alloc (.cells cs 78)).alloc (.cells #[.int .i64 0, .slice none 0 0] 31)) (w.heap.size + 1) #[.int .i64 0, .slice none 0 0] := by have hh := Bx.made 31 (w.alloc (.cells cs 78)) #[.int .i64 0, .slice none 0 0]; simpa using hh
      exact hh)
  clear hW
  have LTX := Lib.hid X0.out.lt
  have LTZ := Lib.hid Z0.out.lt
  have Xq := Lib.hid (show Wn w0 w.heap.size (vcs ⟨s, ws, out⟩ hd) from by rw [HCS.out]; exact X0.out)
  clear X0
  have X0 := Xq
  clear Xq
  have cX0 : w0.cell? ⟨w.heap.size, 0, none⟩ = some (.int .i64 s) := (Bx.cell X0.out 0).trans rfl
  go_wp2_with fail
  clear cX0
  (with_reducible refine (implNew s _).mono ?_)
  rintro e w1 hp
  obtain ⟨A0, n0, c0_, f0, rfl, ho, hb⟩ := ro_parts hp
  clear hp
  have hnw : new s = ⟨s, []⟩ := by unfold new; rw [if_pos HS.out]
  rw [hnw] at ho ⊢
  obtain rfl : n0 = 0 := (nf_len ho.rd).1.symm
  clear hnw
  have SS1 := Lib.hid hb.size
  have B1 := Lib.hid (B0.out.trans (hb.mono B0.out.size))
  have Z1 := Lib.hid (Z0.out.below hb)
  have X1 := Lib.hid (X0.out.below hb)
  clear hb B0 Z0 X0
  have O1 := Lib.hid ho
  clear ho
  obtain ⟨b2, hbb⟩ : ∃ b, w1.heap.size = b := ⟨_, rfl⟩
  go_upto_region 2 with fail
  generalize hW : w1.alloc (.cells #[.int .i64 s, .slice A0 0 c0_] 31) = w2
  have LV := Lib.hid (show w.heap.size ≤ b2 ∧ w.heap.size + 1 < b2 ∧ (w.heap.size + 1) ≤ b2 ∧ w1.heap.size ≤ b2 by have h1 := B1.out.size; have h2Z := Z1.out.lt; have h2X := X1.out.hi_; have h2O := O1.out.hi_; have h3 := hbb; omega)
  have V2 := Lib.hid (show Bx 31 w2 b2 #[.int .i64 s, .slice A0 0 c0_] by rw [← hW, ← hbb]; exact Bx.made _ _ _)
  have hb : Below w1.heap.size w1 w2 := by rw [← hW]; exact below_box _ _
  (try rw [hbb])
  clear hW hbb
  have SS2 := Lib.hid hb.size
  have B2 := Lib.hid (B1.out.trans (hb.mono B1.out.size))
  have Z2 := Lib.hid (Z1.out.below hb)
  have X2 := Lib.hid (X1.out.below hb)
  have O2 := Lib.hid (O1.out.below hb)
  clear hb B1 Z1 X1 O1
  have LWV := Lib.hid V2.out.lt
  have NIV := Lib.hid (show b2 ∉ f0 from fun hm => by have h9 := (O2.out.inn _ hm).2; have h8 := LV.out; omega)
  have O2q := Lib.hid (show OO rowNf w2 w0.heap.size w2.heap.size f0 (.slice A0 0 c0_) [] from O2.out.wide (Nat.le_refl _))
  clear O2
  have O2 := O2q
  clear O2q
  have HVR := Lib.hid (show w.heap.size + 1 < w0.heap.size ∧ w0.heap.size ≤ b2 by have h1 := LTZ.out; have h2 := LV.out; have h3 := SS1.out; omega)
  go_wp2_with (refine wpList_load_mid rfl 76 _ rfl w.heap.size 1 rfl (wcs ws) _ (win_range X2.out) Try.underlying76 rfl (szWin HL.out) ?_)
  go_loopw [11] (fun v0 wr => ∃ (k : Nat) (A1 : Option Addr) (m : Nat) (c1 : Nat) (f : List Nat), v0 = .int .i64 ((k : Int)) ∧ (k ≤ 16) ∧ (b2 ∉ f) ∧ Below w.heap.size w wr ∧ Bx 31 wr (w.heap.size + 1) #[.int .i64 0, .slice none 0 0] ∧ Bx 31 wr b2 #[.int .i64 s, .slice A1 m c1] ∧ Wn wr w.heap.size (vcs ⟨s, ws, out⟩ hd) ∧ OO rowNf wr w0.heap.size wr.heap.size f (.slice A1 m c1) ((pend s (ws.take k)))) (fun i _ => 16 - (intOf i).toNat)
  case atStart => exact ⟨0, A0, 0, c0_, f0, rfl, by omega, NIV.out, B2.out, Z2.out, V2.out, X2.out, O2.out⟩
  case round =>
    obtain ⟨k, A1, m, c1, f, rfl, ghk, ghvf, gB3, gZ3, gV3, gX3, gO3⟩ := hrel
    have B3 := Lib.hid gB3
    have Z3 := Lib.hid gZ3
    have V3 := Lib.hid gV3
    have X3 := Lib.hid gX3
    have O3 := Lib.hid gO3
    have hk := Lib.hid ghk
    have hvf := Lib.hid ghvf
    clear gB3 gZ3 gV3 gX3 gO3 ghk ghvf
    have LUZ3 := Lib.hid Z3.out.lt
    have LUV3 := Lib.hid V3.out.lt
    have SBR3 := Lib.hid B3.out.size
    have hk9 := hk.out
    have LTV := LUV3
    by_cases hlt : k < 16
    · have hlt2 : (k : Int) < 16 := by omega
      obtain ⟨o, ho⟩ : ∃ o, ws[k]? = some o := ⟨_, List.getElem?_eq_getElem (by rw [HL.out]; exact hlt)⟩
      have hix := index_win ho hlt
      have HE := Lib.hid ho
      have HM := Lib.hid (show m ≤ 16 by have h1 := (nf_len O3.out.rd).1; have h2 := pend_len (ws.take k) s; rw [List.length_take] at h2; omega)
      clear ho
      obtain ⟨b4, hbb⟩ : ∃ b, wr.heap.size = b := ⟨_, rfl⟩
      go_upto_region 5 with fail
      generalize hW : wr.alloc (.cells #[.bool o.isSome, .string (strOfNums (o.getD []))] 74) = w4
      have LY := Lib.hid (show w.heap.size ≤ b4 ∧ w.heap.size + 1 < b4 ∧ b2 < b4 ∧ (w.heap.size + 1) ≤ b4 ∧ wr.heap.size ≤ b4 by have h1 := B3.out.size; have h2Z := Z3.out.lt; have h2V := V3.out.lt; have h2X := X3.out.hi_; have h2O := O3.out.hi_; have h3 := hbb; omega)
      have Y4 := Lib.hid (show Bx 74 w4 b4 #[.bool o.isSome, .string (strOfNums (o.getD []))] by rw [← hW, ← hbb]; exact Bx.made _ _ _)
      have hb : Below wr.heap.size wr w4 := by rw [← hW]; exact below_box _ _
      (try rw [hbb])
      clear hW hbb
      have SS4 := Lib.hid hb.size
      have B4 := Lib.hid (B3.out.trans (hb.mono B3.out.size))
      have Z4 := Lib.hid (Z3.out.below hb)
      have V4 := Lib.hid (V3.out.below hb)
      have X4 := Lib.hid (X3.out.below hb)
      have O4 := Lib.hid (O3.out.below hb)
      clear hb B3 Z3 V3 X3 O3
      have LWY := Lib.hid Y4.out.lt
      clear hix
      cases o with
      | none =>
        have O4q := Lib.hid (show OO rowNf w4 w0.heap.size w4.heap.size f (.slice A1 m c1) (pend s (ws.take k)) from O4.out.wide (Nat.le_refl _))
        have cY0 : w4.cell? ⟨b4, 0, none⟩ = some (.bool false) := Y4.out.cell 0
        go_wp2_with fail
        clear cY0
        have Yq := Lib.hid (show Bx 74 w4 b4 #[.bool false, .string (strOfNums [])] from Y4.out)
        clear Y4
        have Y4 := Yq
        clear Yq
        go_roundw
        case rel => exact ⟨k + 1, A1, m, c1, f, by go_num, by omega, hvf.out, B4.out, Z4.out, V4.out, X4.out, (by rw [pend_snoc_none HE.out]; exact O4q.out)⟩
        case measure => simp [intOf]; omega
      | some x =>
        have cY0 : w4.cell? ⟨b4, 0, none⟩ = some (.bool true) := Y4.out.cell 0
        go_wp2_with fail
        clear cY0
        have Yq := Lib.hid (show Bx 74 w4 b4 #[.bool true, .string (strOfNums x)] from Y4.out)
        clear Y4
        have Y4 := Yq
        clear Yq
        have HWX := Lib.hid (HW.out x (List.mem_of_getElem? HE.out))
        have LTV2 := Lib.hid V4.out.lt
        have LTnV := Lib.hid V4.out.lt
        have HO0 := Lib.hid (show OO (row 85 nf) w4 0 w4.heap.size f (.slice A1 m c1) ((pend s (ws.take k))) from O4.out.wide (Nat.zero_le _))
        refine rgp.region_tailE (rgp.EA 11 reg.Bel (ux.ApU nf 85 w4.heap.size f A1 m c1 (pend s (ws.take k)))) 12 32 [some [], some [(0, 17)], some [], some [(2, 19)], some [], some [(3, 20), (4, 21)], some [], some [(6, 23)], some [(7, 24)], some [(5, 22), (8, 25)], some [(9, 26)], some [(1, 18), (10, 27)], none, none] [(0, 17), (1, 18), (2, 19), (3, 20), (4, 21), (5, 22), (6, 23), (7, 24), (8, 25), (9, 26), (10, 27), (11, 28)]
          (ux.CU nf 85 w4.heap.size f A1 m c1 (pend s (ws.take k)) w4)
          (rgp.RA 11 [rgp.is (.pointer (some ⟨b2, 1, none⟩)), rgp.is (.slice A1 m c1), rgp.is (.pointer (some ⟨w.heap.size, 0, none⟩)), rgp.is (.int .i64 s), rgp.is (.int .i64 ((k : Int))), rgp.is (.int .i64 (((s + (k : Int)) % 4096))), rgp.is (.pointer (some ⟨b4, 1, none⟩)), rgp.is (.string (strOfNums x)), ux.elU nf 85 w4.heap.size f A1 m c1 (pend s (ws.take k)) ux.bytes (x), ux.elU nf 85 w4.heap.size f A1 m c1 (pend s (ws.take k)) nf (⟨(s + (k : Int)) % 4096, x⟩), ux.oneU nf 85 w4.heap.size f A1 m c1 (pend s (ws.take k)) ((⟨(s + (k : Int)) % 4096, x⟩ : Nf)), rgp.val fun _ => True] (ux.newU nf 85 w4.heap.size f m (pend s (ws.take k)) ((⟨(s + (k : Int)) % 4096, x⟩ : Nf))))
          (by kernel_rfl) rfl (by kernel_rfl) (by kernel_rfl) rfl
          (ux.cu_keep nf 85 w4.heap.size f A1 m c1 (pend s (ws.take k)) 11 w4)
          (rgp.ra_keep (ux.newU_keep nf 85 w4.heap.size f m (pend s (ws.take k)) ((⟨(s + (k : Int)) % 4096, x⟩ : Nf)))) (ux.cu_start nf 85 w4.heap.size f A1 m c1 (pend s (ws.take k)) HO0.out) (by kernel_rfl) ⟨?_, ?_, ?_, ?_, ?_, ?_, ?_, ?_, ?_, ?_, ?_, ?_, trivial⟩ ?_
        · refine fun w8 hc  K hK => ?_
          (try simp only [Act.put, List.setIfInBounds_toArray, List.set_cons_zero, List.set_cons_succ])
          go_simp
          exact hK (.pointer (some ⟨b2, 1, none⟩)) _ (rgp.ra1 rfl rfl) (rgp.ea1 rfl (Below.refl _ _))
        · refine fun w8 hc v0 h0 K hK => ?_
          have h0 := rgp.ra1_out rfl h0
          obtain rfl : v0 = .pointer (some ⟨b2, 1, none⟩) := h0
          (try simp only [Act.put, List.setIfInBounds_toArray, List.set_cons_zero, List.set_cons_succ])
          have c0 := (ux.bx_ks V4.out hc.1 hvf.out).cell 1
          go_simp
          exact hK (.slice A1 m c1) _ (rgp.ra1 rfl rfl) (rgp.ea1 rfl (Below.refl _ _))
        · refine fun w8 hc  K hK => ?_
          (try simp only [Act.put, List.setIfInBounds_toArray, List.set_cons_zero, List.set_cons_succ])
          go_simp
          exact hK (.pointer (some ⟨w.heap.size, 0, none⟩)) _ (rgp.ra1 rfl rfl) (rgp.ea1 rfl (Below.refl _ _))
        · refine fun w8 hc v2 h2 K hK => ?_
          have h2 := rgp.ra1_out rfl h2
          obtain rfl : v2 = .pointer (some ⟨w.heap.size, 0, none⟩) := h2
          (try simp only [Act.put, List.setIfInBounds_toArray, List.set_cons_zero, List.set_cons_succ])
          have c0 : w8.cell? ⟨w.heap.size, 0, none⟩ = some (.int .i64 s) := (Bx.cell (Wn.ks X4.out hc.1 (fun c h1 h2 hm => by have hlV := LV.out; have hlY := LY.out; have hs0 := LTX.out; have hs1 := LTZ.out; have hs2 := SS1.out; have hs3 := SS2.out; have hs4 := LWV.out; have hs5 := HVR.out; have hs6 := LUZ3.out; have hs7 := LUV3.out; have hs8 := SBR3.out; have hs9 := SS4.out; have hs10 := LWY.out; have h9 := O4.out.inn _ hm; omega)) 0).trans rfl
          go_simp
          exact hK (.int .i64 s) _ (rgp.ra1 rfl rfl) (rgp.ea1 rfl (Below.refl _ _))
        · refine fun w8 hc  K hK => ?_
          (try simp only [Act.put, List.setIfInBounds_toArray, List.set_cons_zero, List.set_cons_succ])
          go_simp
          exact hK (.int .i64 ((k : Int))) _ (rgp.ra1 rfl rfl) (rgp.ea1 rfl (Below.refl _ _))
        · refine fun w8 hc v3 h3 v4 h4 K hK => ?_
          have h3 := rgp.ra1_out rfl h3
          obtain rfl : v3 = .int .i64 s := h3
          have h4 := rgp.ra1_out rfl h4
          obtain rfl : v4 = .int .i64 ((k : Int)) := h4
          (try simp only [Act.put, List.setIfInBounds_toArray, List.set_cons_zero, List.set_cons_succ])
          have hcp8 := bs.seqA s (k : Int) w8 HS.out ⟨by omega, by omega⟩
          go_simp
          (with_reducible refine hcp8.mono ?_)
          rintro e w3 ⟨rfl, rfl⟩
          exact hK _ _ (rgp.ra1 rfl rfl) (rgp.ea1 rfl (Below.refl _ _))
        · refine fun w8 hc  K hK => ?_
          (try simp only [Act.put, List.setIfInBounds_toArray, List.set_cons_zero, List.set_cons_succ])
          go_simp
          exact hK (.pointer (some ⟨b4, 1, none⟩)) _ (rgp.ra1 rfl rfl) (rgp.ea1 rfl (Below.refl _ _))
        · refine fun w8 hc v6 h6 K hK => ?_
          have h6 := rgp.ra1_out rfl h6
          obtain rfl : v6 = .pointer (some ⟨b4, 1, none⟩) := h6
          (try simp only [Act.put, List.setIfInBounds_toArray, List.set_cons_zero, List.set_cons_succ])
          have c0 : w8.cell? ⟨b4, 1, none⟩ = some (.string (strOfNums x)) := (ux.bx_ks Y4.out hc.1 (fun hm => by have hlV := LV.out; have hlY := LY.out; have hs0 := LTX.out; have hs1 := LTZ.out; have hs2 := SS1.out; have hs3 := SS2.out; have hs4 := LWV.out; have hs5 := HVR.out; have hs6 := LUZ3.out; have hs7 := LUV3.out; have hs8 := SBR3.out; have hs9 := SS4.out; have hs10 := LWY.out; have h9 := O4.out.inn _ hm; omega)).cell 1
          go_simp
          exact hK (.string (strOfNums x)) _ (rgp.ra1 rfl rfl) (rgp.ea1 rfl (Below.refl _ _))
        · refine fun w8 hc v7 h7 K hK => ?_
          have h7 := rgp.ra1_out rfl h7
          obtain rfl : v7 = .string (strOfNums x) := h7
          (try simp only [Act.put, List.setIfInBounds_toArray, List.set_cons_zero, List.set_cons_succ])
          obtain ⟨cN, w5, hrun, hom, hb5⟩ := conv_back HWX.out.1 (by have := HWX.out.2; omega) w8
          go_simp
          exact hK _ _ (rgp.ra1 rfl ⟨_, _, _, hc.2.hi_, ux.num_om hom⟩) (rgp.ea1 rfl hb5)
        · refine fun w8 hc v5 h5 v8 h8 K hK => ?_
          have h5 := rgp.ra1_out rfl h5
          obtain rfl : v5 = .int .i64 (((s + (k : Int)) % 4096)) := h5
          have h8 := rgp.ra1_out rfl h8
          obtain ⟨fe8, lo8, hi8, hl8, ho8⟩ := h8
          obtain ⟨Ae8, ne8, ce8, rfl⟩ := ux.bytes_slo ho8.1
          (try simp only [Act.put, List.setIfInBounds_toArray, List.set_cons_zero, List.set_cons_succ])
          go_simp
          exact hK (ux.nfV (⟨(s + (k : Int)) % 4096, x⟩ : Nf) (.slice Ae8 ne8 ce8)) _ (rgp.ra1 rfl ⟨fe8, lo8, hi8, hl8, ux.nf_mk (x := (⟨(s + (k : Int)) % 4096, x⟩ : Nf)) ho8 (ux.bytes.nd ho8.1)⟩) (rgp.ea1 rfl (Below.refl _ _))
        · refine fun w8 hc v9 h9 K hK => ?_
          have h9 := rgp.ra1_out rfl h9
          obtain ⟨fe9, lo9, hi9, hl9, ho9⟩ := h9
          obtain ⟨Ae9, ne9, ce9, fz9, rfl, _, _, _⟩ := ux.nf_o ho9
          (try simp only [Act.put, List.setIfInBounds_toArray, List.set_cons_zero, List.set_cons_succ])
          go_simp
          exact hK (.slice (some ⟨w8.heap.size, 0, none⟩) 1 1) _ (rgp.ra1 rfl ⟨w8.heap.size, 1, ux.nfV (⟨(s + (k : Int)) % 4096, x⟩ : Nf) (.slice Ae9 ne9 ce9), fe9, lo9, hi9, rfl, hc.2.hi_, Bx.made _ _ _, hl9, ho9.below (bx.below_box _ _)⟩) (rgp.ea1 rfl (bx.below_box _ _))
        · refine fun w8 hc v1 h1 v10 h10 K hK => ?_
          have h1 := rgp.ra1_out rfl h1
          obtain rfl : v1 = .slice A1 m c1 := h1
          have h10 := rgp.ra1_out rfl h10
          obtain ⟨q10, cq10, u10, fe10, lo10, hi10, rfl, hq10, hX10, hl10, ho10⟩ := h10
          (try simp only [Act.put, List.setIfInBounds_toArray, List.set_cons_zero, List.set_cons_succ])
          rw [if_pos (by rfl)]
          refine ux.wp_push (S := nf) (T := 85) _ _ 29 rfl Try.underlying29 HZ.out.1 HZ.out.2.1 HZ.out.2.2.1 (by rw [HZ.out.2.2.2]; omega) rfl rfl rfl hc.2 ((⟨(s + (k : Int)) % 4096, x⟩ : Nf)) ho10 hl10 hX10 (by have := HM.out; omega) ?_
          intro A4 c4 w4 hn4 hp4
          exact hK _ _ (rgp.ra2 hn4) (rgp.ea2 hp4)
        refine fun wg5 hc v0 h0 v1 h1 v2 h2 v3 h3 v4 h4 v5 h5 v6 h6 v7 h7 v8 h8 v9 h9 v10 h10 v11 h11 => ?_
        have h0 := rgp.ra1_out rfl h0
        obtain rfl : v0 = .pointer (some ⟨b2, 1, none⟩) := h0
        have h1 := rgp.ra1_out rfl h1
        obtain rfl : v1 = .slice A1 m c1 := h1
        have h2 := rgp.ra1_out rfl h2
        obtain rfl : v2 = .pointer (some ⟨w.heap.size, 0, none⟩) := h2
        have h3 := rgp.ra1_out rfl h3
        obtain rfl : v3 = .int .i64 s := h3
        have h4 := rgp.ra1_out rfl h4
        obtain rfl : v4 = .int .i64 ((k : Int)) := h4
        have h5 := rgp.ra1_out rfl h5
        obtain rfl : v5 = .int .i64 (((s + (k : Int)) % 4096)) := h5
        have h6 := rgp.ra1_out rfl h6
        obtain rfl : v6 = .pointer (some ⟨b4, 1, none⟩) := h6
        have h7 := rgp.ra1_out rfl h7
        obtain rfl : v7 = .string (strOfNums x) := h7
        have h8 := rgp.ra1_out rfl h8
        obtain ⟨fe8, lo8, hi8, hl8, ho8⟩ := h8
        obtain ⟨Ae8, ne8, ce8, rfl⟩ := ux.bytes_slo ho8.1
        have h9 := rgp.ra1_out rfl h9
        obtain ⟨fe9, lo9, hi9, hl9, ho9⟩ := h9
        obtain ⟨Ae9, ne9, ce9, fz9, rfl, _, _, _⟩ := ux.nf_o ho9
        have h10 := rgp.ra1_out rfl h10
        obtain ⟨q10, cq10, u10, fe10, lo10, hi10, rfl, hq10, hX10, hl10, ho10⟩ := h10
        have h11 := rgp.ra2_out h11
        obtain ⟨A3, c3, f3, hi3, rfl, hO3, hf3⟩ := h11
        (try simp only [reg.Obs])
        (try simp only [Act.put, List.setIfInBounds_toArray, List.set_cons_zero, List.set_cons_succ])
        simp only [List.drop_succ_cons, List.drop_zero]
        have SS5 := Lib.hid hc.1.size
        have B5 := Lib.hid (B4.out.trans (ux.ks_bel hc.1 (fun b hb => by have hlV := LV.out; have hlY := LY.out; have hs0 := LTX.out; have hs1 := LTZ.out; have hs2 := SS1.out; have hs3 := SS2.out; have hs4 := LWV.out; have hs5 := HVR.out; have hs6 := LUZ3.out; have hs7 := LUV3.out; have hs8 := SBR3.out; have hs9 := SS4.out; have hs10 := LWY.out; have h9 := O4.out.inn b hb; omega) B4.out.size))
        have Z5 := Lib.hid (ux.bx_ks Z4.out hc.1 (fun hm => by have hlV := LV.out; have hlY := LY.out; have hs0 := LTX.out; have hs1 := LTZ.out; have hs2 := SS1.out; have hs3 := SS2.out; have hs4 := LWV.out; have hs5 := HVR.out; have hs6 := LUZ3.out; have hs7 := LUV3.out; have hs8 := SBR3.out; have hs9 := SS4.out; have hs10 := LWY.out; have h9 := O4.out.inn _ hm; omega))
        have V5 := Lib.hid (ux.bx_ks V4.out hc.1 hvf.out)
        have Y5 := Lib.hid (ux.bx_ks Y4.out hc.1 (fun hm => by have hlV := LV.out; have hlY := LY.out; have hs0 := LTX.out; have hs1 := LTZ.out; have hs2 := SS1.out; have hs3 := SS2.out; have hs4 := LWV.out; have hs5 := HVR.out; have hs6 := LUZ3.out; have hs7 := LUV3.out; have hs8 := SBR3.out; have hs9 := SS4.out; have hs10 := LWY.out; have h9 := O4.out.inn _ hm; omega))
        have X5 := Lib.hid (X4.out.ks hc.1 (fun b h1 h2 h3 => by have hlV := LV.out; have hlY := LY.out; have hs0 := LTX.out; have hs1 := LTZ.out; have hs2 := SS1.out; have hs3 := SS2.out; have hs4 := LWV.out; have hs5 := HVR.out; have hs6 := LUZ3.out; have hs7 := LUV3.out; have hs8 := SBR3.out; have hs9 := SS4.out; have hs10 := LWY.out; have h9 := O4.out.inn b h3; omega))
        have HF3 := Lib.hid hf3
        have O5 := Lib.hid (show OO rowNf wg5 w0.heap.size wg5.heap.size f3 (.slice A3 (m + 1) c3) (((pend s (ws.take k))) ++ [(⟨(s + (k : Int)) % 4096, x⟩ : Nf)]) from oo_narrow (hO3.wide (Nat.zero_le _)) (fun b hb => by have hlV := LV.out; have hlY := LY.out; have hs0 := LTX.out; have hs1 := LTZ.out; have hs2 := SS1.out; have hs3 := SS2.out; have hs4 := LWV.out; have hs5 := HVR.out; have hs6 := LUZ3.out; have hs7 := LUV3.out; have hs8 := SBR3.out; have hs9 := SS4.out; have hs10 := LWY.out; have h7 := hf3 b hb; rcases h7 with h7 | h7; exact (O4.out.inn b h7).1; omega))
        clear hO3 hf3 hc HO0 B4 Z4 V4 Y4 X4 O4
        have NIV5 := Lib.hid (show b2 ∉ f3 from fun hm => by rcases HF3.out _ hm with h9 | h9; exact hvf.out h9; (have h8 := LTnV.out; omega))
        have cV1 : wg5.cell? ⟨b2, 1, none⟩ = some (.slice A1 m c1) := V5.out.cell 1
        have fV1 : wg5.frozen? ⟨b2, 1, none⟩ = false := V5.out.free 1
        go_wp2_with fail
        clear cV1 fV1
        have hWW : (wg5.setCell ⟨b2, 1, none⟩ (.slice A3 (m + 1) c3)) = (wg5.setCell ⟨b2, 1, none⟩ (.slice A3 (m + 1) c3)) := rfl
        obtain ⟨w6, hW⟩ : ∃ wy, (wg5.setCell ⟨b2, 1, none⟩ (.slice A3 (m + 1) c3)) = wy := ⟨_, rfl⟩
        rw [hW]
        clear hWW
        have B6 := Lib.hid (show Below w.heap.size w w6 by rw [← hW]; exact (B5.out.setCell (p := ⟨b2, 1, none⟩) (by have hlV := LV.out; have hlY := LY.out; have hs0 := LTX.out; have hs1 := LTZ.out; have hs2 := SS1.out; have hs3 := SS2.out; have hs4 := LWV.out; have hs5 := HVR.out; have hs6 := LUZ3.out; have hs7 := LUV3.out; have hs8 := SBR3.out; have hs9 := SS4.out; have hs10 := LWY.out; have hs11 := SS5.out; first | omega | (simp <;> omega)) _))
        have Z6 := Lib.hid (show Bx 31 w6 (w.heap.size + 1) #[.int .i64 0, .slice none 0 0] by rw [← hW]; exact (Z5.out.other (by have hlV := LV.out; have hlY := LY.out; have hs0 := LTX.out; have hs1 := LTZ.out; have hs2 := SS1.out; have hs3 := SS2.out; have hs4 := LWV.out; have hs5 := HVR.out; have hs6 := LUZ3.out; have hs7 := LUV3.out; have hs8 := SBR3.out; have hs9 := SS4.out; have hs10 := LWY.out; have hs11 := SS5.out; first | omega | (simp <;> omega)) _ _))
        have V6 := Lib.hid (show Bx 31 w6 (b2) #[.int .i64 s, .slice A3 (m + 1) c3] by rw [← hW]; exact (V5.out.set 1 _))
        have Y6 := Lib.hid (show Bx 74 w6 (b4) #[.bool true, .string (strOfNums x)] by rw [← hW]; exact (Y5.out.other (by have hlV := LV.out; have hlY := LY.out; have hs0 := LTX.out; have hs1 := LTZ.out; have hs2 := SS1.out; have hs3 := SS2.out; have hs4 := LWV.out; have hs5 := HVR.out; have hs6 := LUZ3.out; have hs7 := LUV3.out; have hs8 := SBR3.out; have hs9 := SS4.out; have hs10 := LWY.out; have hs11 := SS5.out; first | omega | (simp <;> omega)) _ _))
        have X6 := Lib.hid (show Wn w6 w.heap.size (vcs ⟨s, ws, out⟩ hd) by rw [← hW]; exact (X5.out.same (by simp [World.setCell]) fun b h1 h2 => by rw [Below.heap_setCell _ _ _ _ (by have hlV := LV.out; have hlY := LY.out; have hs0 := LTX.out; have hs1 := LTZ.out; have hs2 := SS1.out; have hs3 := SS2.out; have hs4 := LWV.out; have hs5 := HVR.out; have hs6 := LUZ3.out; have hs7 := LUV3.out; have hs8 := SBR3.out; have hs9 := SS4.out; have hs10 := LWY.out; have hs11 := SS5.out; first | omega | (simp <;> omega))]))
        have O6 := Lib.hid (show OO rowNf w6 w0.heap.size wg5.heap.size f3 (.slice A3 (m + 1) c3) (((pend s (ws.take k)) ++ [(⟨(s + (k : Int)) % 4096, x⟩ : Nf)])) by rw [← hW]; exact (O5.out.ks (ux.ks_set (F := [b2]) (List.mem_singleton.2 rfl) 1 _) (fun q8 h8 h9 => NIV5.out (by rw [← List.mem_singleton.1 h9]; exact h8))))
        clear hW B5 Z5 V5 Y5 X5 O5
        go_roundw
        case rel => exact ⟨k + 1, A3, m + 1, c3, f3, by go_num, by omega, NIV5.out, B6.out, Z6.out, V6.out, X6.out, (by rw [pend_snoc_some HE.out]; exact O6.out.wide (Nat.le_refl _))⟩
        case measure => simp [intOf]; omega
    · have hlt2 : ¬ (k : Int) < 16 := by omega
      obtain rfl : k = 16 := by omega
      have HF := Lib.hid (show ws.take 16 = ws from List.take_of_length_le (by rw [HL.out]; exact Nat.le_refl _))
      have cV0 : wr.cell? ⟨b2, 0, none⟩ = some (.int .i64 s) := V3.out.cell 0
      have cV1 : wr.cell? ⟨b2, 1, none⟩ = some (.slice A1 m c1) := V3.out.cell 1
      go_wp2_with (first | (refine stw.list_store rfl 31 _ _ rfl (w.heap.size + 1) #[.int .i64 s, .slice A1 m c1] rfl rfl 31 _ Z3.out rfl ux.szRob (ux.oneRob _ _ _ _) ?_; intro wz4 hz))
      clear cV0 cV1
      have B4 := Lib.hid (hz.on B3.out (by have hlV := LV.out; have hs0 := LTX.out; have hs1 := LTZ.out; have hs2 := SS1.out; have hs3 := SS2.out; have hs4 := LWV.out; have hs5 := HVR.out; have hs6 := LUZ3.out; have hs7 := LUV3.out; have hs8 := SBR3.out; first | omega | (simp <;> omega)))
      have Z4 := Lib.hid (hz.box)
      have V4 := Lib.hid (hz.keep V3.out (by have hlV := LV.out; have hs0 := LTX.out; have hs1 := LTZ.out; have hs2 := SS1.out; have hs3 := SS2.out; have hs4 := LWV.out; have hs5 := HVR.out; have hs6 := LUZ3.out; have hs7 := LUV3.out; have hs8 := SBR3.out; first | omega | (simp <;> omega)))
      have X4 := Lib.hid (X3.out.same hz.below.size fun b h1 h2 => hz.other b (by have hlV := LV.out; have hs0 := LTX.out; have hs1 := LTZ.out; have hs2 := SS1.out; have hs3 := SS2.out; have hs4 := LWV.out; have hs5 := HVR.out; have hs6 := LUZ3.out; have hs7 := LUV3.out; have hs8 := SBR3.out; first | omega | (simp <;> omega)))
      have O4 := Lib.hid (O3.out.same hz.below.size fun b h1 h2 => hz.other b (by have hlV := LV.out; have hs0 := LTX.out; have hs1 := LTZ.out; have hs2 := SS1.out; have hs3 := SS2.out; have hs4 := LWV.out; have hs5 := HVR.out; have hs6 := LUZ3.out; have hs7 := LUV3.out; have hs8 := SBR3.out; first | omega | (simp <;> omega)))
      clear hz B3 Z3 V3 X3 O3
      (try simp only [Exit.inBlock, Exit.then])
      refine bodyPost_ret (v := .agg #[.int .i64 s, .slice A1 m c1]) ?_ rfl ?_
      · rw [results_cell1 rfl]
        exact stw.back Z4.out Try.underlying31 rfl ux.szRob
      · exact ⟨_, _, _, _, rfl, by show OO rowNf _ _ _ _ _ (pend s ws); rw [← HF.out]; exact O4.out.wide (by have hlV := LV.out; have hs0 := LTX.out; have hs1 := LTZ.out; have hs2 := SS1.out; have hs3 := SS2.out; have hs4 := LWV.out; have hs5 := HVR.out; have hs6 := LUZ3.out; have hs7 := LUV3.out; have hs8 := SBR3.out; omega), B4.out⟩
end Go.Proofs.Ytmmhleobgpgliaa.ro
end

section
namespace Go.Proofs.Ytmmhleobgpgliaa.ro
open Go.RowKit sl harn bx stw
open ux (Nf Rob RR OO row rowB rowNf nf rob)
open mrw (blkOf)
set_option linter.unusedVariables false
set_option linter.unusedSimpArgs false

/-- A buffer and a list of bodies, all of the call's own, apart. -/
def R2Post (p : Rob × List (List Int)) (w : World) (e : Ending) (w' : World) : Prop := ∃ A n c f A2 n2 c2 f2, e = .returned (.tuple #[.agg #[.int .i64 p.1.Start, .slice A n c], .slice A2 n2 c2]) ∧ OO rowNf w' w.heap.size w'.heap.size f (.slice A n c) p.1.Pending ∧ OO rowB w' w.heap.size w'.heap.size f2 (.slice A2 n2 c2) p.2 ∧ (∀ b, b ∈ f → b ∉ f2) ∧ Below w.heap.size w w'
theorem r2_parts {p : Rob × List (List Int)} {w : World} {e : Ending} {w' : World} (h : R2Post p w e w') : ∃ A n c f A2 n2 c2 f2, e = .returned (.tuple #[.agg #[.int .i64 p.1.Start, .slice A n c], .slice A2 n2 c2]) ∧ OO rowNf w' w.heap.size w'.heap.size f (.slice A n c) p.1.Pending ∧ OO rowB w' w.heap.size w'.heap.size f2 (.slice A2 n2 c2) p.2 ∧ (∀ b, b ∈ f → b ∉ f2) ∧ Below w.heap.size w w' := h
def Zs (b : Nat) (w : World) : Prop := ∃ cs : Array Value, cs.size = 2 ∧ Bx 31 w b cs
def C7 (W : World) (b : Nat) (w : World) : Prop := KS [b] W w ∧ Zs b w
def E7 (b : Nat) (w w' : World) : Prop := KS [b] w w' ∧ Zs b w'
theorem Zs.below {b : Nat} {w w' : World} (h : Zs b w) (hb : Below w.heap.size w w') : Zs b w' := by
  obtain ⟨cs, h1, h2⟩ := h
  exact ⟨cs, h1, h2.below hb⟩
theorem c7_keep (k : Nat) (W : World) (b : Nat) : ∀ i w1 w2, C7 W b w1 → rgp.EA k reg.Bel (E7 b) i w1 w2 → C7 W b w2 := fun i w1 w2 hc he =>
  rgp.ea_cases he (fun hb => ⟨hc.1.trans (ux.ks_below hb _), hc.2.below hb⟩) (fun h2 => ⟨hc.1.trans h2.1, h2.2⟩)
/-- The buffer made. -/
def bufv (W : World) (b : Nat) (r : Rob) (hb : b < W.heap.size) : rgp.St reg.Bel (E7 b) :=
  ⟨fun v w => ∃ A n c f hi, v = .agg #[.int .i64 r.Start, .slice A n c] ∧ OO rowNf w W.heap.size hi f (.slice A n c) r.Pending, fun v w w' ⟨A, n, c, f, hi, e, h⟩ he => by
    rcases he with he | he
    · exact ⟨A, n, c, f, hi, e, h.below he⟩
    · exact ⟨A, n, c, f, hi, e, h.ks he.1 fun q h1 h2 => by have := (h.inn q h1).1; have := List.mem_singleton.1 h2; omega⟩⟩
def stv (b : Nat) (v : Value) (w : World) : Prop := ∃ cs, v = .agg cs ∧ Bx 31 w b cs
theorem stv_keep (b : Nat) : ∀ v w w', stv b v w → reg.Bel w w' → stv b v w' := fun v w w' ⟨cs, e, h⟩ hb => ⟨cs, e, h.below hb⟩
theorem Rv.len {w : World} {b : Nat} {fp : List Nat} {t : St} (h : Rv w b fp t) : t.ws.length = 16 ∧ (0 ≤ t.s ∧ t.s ≤ 4095) ∧ ∀ x, some x ∈ t.ws → Wf .u8 x ∧ x.length ≤ 100 := by
  obtain ⟨_, _, _, _, _, _, h⟩ := h
  exact h
/-- Its head. -/
theorem Rv.start_ {W w2 : World} {be : Nat} {t : St} (hE : Bx 22 w2 be #[]) (hV : Bx 78 w2 W.heap.size (vcs t (.slice (some ⟨be, 0, none⟩) 0 0))) (hne : be ≠ W.heap.size) (ho : t.out = []) (h16 : t.ws.length = 16) (hs : 0 ≤ t.s ∧ t.s ≤ 4095) (hw : ∀ x, some x ∈ t.ws → Wf .u8 x ∧ x.length ≤ 100) : Rv w2 W.heap.size [be] t :=
  ⟨_, 0, 0, hV, by rw [ho]; exact (ux.row_empty 22 ux.bytes hE).wide (Nat.zero_le _), by simpa using hne.symm, h16, hs, hw⟩
end Go.Proofs.Ytmmhleobgpgliaa.ro
end

section
namespace Go.Proofs.Ytmmhleobgpgliaa.ro
open Go.RowKit sl harn bx stw
set_option linter.unusedVariables false
open ux (Nf Rob RR OO row rowB rowNf nf rob)
open mrw (blkOf)
open bs (nsq sqd)
set_option linter.unusedSimpArgs false

theorem rr_wf {w : World} {lo hi n c : Nat} {A : Option Addr} {xs : List Nf} (h : RR rowNf w lo hi (.slice A n c) xs) : ∀ x ∈ xs, Wf .u8 x.Body := by
  intro x hx
  obtain ⟨i, hi'⟩ := List.mem_iff_getElem?.1 hx
  have hlt : i < n := by have := (List.getElem?_eq_some_iff.1 hi').1; have := (nf_len h).1; omega
  obtain ⟨g, off, y, u, hA, hy, _, _, _, hu⟩ := ux.row_at (show RR (row 85 nf) w lo hi (.slice A n c) xs from h) hlt
  obtain rfl : x = y := Option.some.inj (hi'.symm.trans hy)
  obtain ⟨A0, n0, c0, rfl, hb⟩ := ux.nf_r hu
  exact (ux.rd_of hb).wf
theorem fill_mem (s : Int) : ∀ (xs : List Nf) (ws : Win) (x : List Int), some x ∈ fill s ws xs → some x ∈ ws ∨ ∃ f ∈ xs, f.Body = x
  | [], ws, x, h => .inl h
  | f :: r, ws, x, h => by
    rcases fill_mem s r _ x (show some x ∈ fill s (kp ws (sqd s f.Seq).toNat f.Body) r from h) with h1 | ⟨g, h1, h2⟩
    · rcases kp_mem h1 with h1 | h1
      · exact .inl h1
      · exact .inr ⟨f, List.mem_cons_self, h1.symm⟩
    · exact .inr ⟨g, List.mem_cons_of_mem _ h1, h2⟩
theorem start_wf {r : Rob} (h : ∀ x ∈ r.Pending, Wf .u8 x.Body) : ∀ x, some x ∈ (start r).ws → Wf .u8 x := by
  intro x hx
  rcases fill_mem _ _ _ _ hx with h1 | ⟨f, h1, h2⟩
  · have := List.eq_of_mem_replicate h1; cases this
  · rw [← h2]; exact h f h1
theorem mvs_no {r : Rob} {n : Int} (h : may r n = false) : mvs r n = (r, []) := by unfold mvs; rw [if_neg (by simp [h])]
theorem recv_no {r : Rob} {n : Int} {b : List Int} (h : (may r n && decide (b.length ≤ 100)) = false) : recv r n b = (r, []) := by unfold recv; rw [if_neg (by simp [h])]
theorem recv_yes {r : Rob} {n : Int} {b : List Int} (h : (may r n && decide (b.length ≤ 100)) = true) {k : Nat} (hk : sqd r.Start n = k) : recv r n b = (buf (rcvT (start r) k b), (rcvT (start r) k b).out) := by unfold recv; rw [if_pos h, hk, Int.toNat_natCast]
theorem mvs_yes {r : Rob} {n : Int} (h : may r n = true) {k : Nat} (hk : sqd r.Start n = k) : mvs r n = (buf (mvT (start r) k), (mvT (start r) k).out) := by unfold mvs; rw [if_pos h, hk, Int.toNat_natCast]
set_option maxRecDepth 100000 in
set_option maxHeartbeats 4000000 in
theorem implMv (s : Int) (xs : List Nf) (lo hi : Nat) (A : Option Addr) (n c : Nat) (m : Int) (w : World) (h : RR rowNf w lo hi (.slice A n c) xs) (hn : n ≤ 67108864) (hbd : ∀ x ∈ xs, x.Body.length ≤ 67108864) :
    Calls Try.prog 30 #[.agg #[.int .i64 s, .slice A n c], .int .i64 m] w (R2Post (mvs ⟨s, xs⟩ m) w) := by
  have RW := Lib.hid h
  obtain ⟨hlR, hncR, hcmR⟩ := nf_len h
  have HL := Lib.hid hlR
  have LHR := Lib.hid (show hi ≤ w.heap.size from h.hi_)
  clear hlR h
  have HN := Lib.hid hn
  have HBD := Lib.hid hbd
  clear hn hbd
  have HWF := Lib.hid (rr_wf RW.out)
  go_enter Try.func30, Try.ntmps30
  go_upto_region 1 with fail
  obtain ⟨w0, hW⟩ : ∃ w0, (w.alloc (.cells #[.int .i64 s, .slice A n c] 31)).alloc (.cells #[.int .i64 0, .slice none 0 0] 31) = w0 := ⟨_, rfl⟩
  rw [hW]
  have B0 := Lib.hid (show Below w.heap.size w w0 by rw [← hW]; exact ((Below.refl _ _).alloc (by simp <;> omega) _).alloc (by simp <;> omega) _)
  have X0 := Lib.hid (show Bx 31 w0 (w.heap.size) #[.int .i64 s, .slice A n c] by
      rw [← hW]
      have hh := Bx.made 31 w #[.int .i64 s, .slice A n c]
      exact (hh.below (below_box _ _)))
  have Z0 := Lib.hid (show Bx 31 w0 (w.heap.size + 1) #[.int .i64 0, .slice none 0 0] by
      rw [← hW]
      have hh : Bx 31 ((w.alloc (.cells #[.int .i64 s, .slice A n c] 31)).alloc (.cells #[.int .i64 0, .slice none 0 0] 31)) (w.heap.size + 1) #[.int .i64 0, .slice none 0 0] := by have hh := Bx.made 31 (w.alloc (.cells #[.int .i64 s, .slice A n c] 31)) #[.int .i64 0, .slice none 0 0]; simpa using hh
      exact hh)
  have R0 := Lib.hid (show RR rowNf w0 lo hi (.slice A n c) xs by rw [← hW]; exact ((RW.out.below (below_box _ _)).below (below_box _ _)))
  clear hW
  have LTX := Lib.hid X0.out.lt
  have LTZ := Lib.hid Z0.out.lt
  have cX0 : w0.cell? ⟨w.heap.size, 0, none⟩ = some (.int .i64 s) := X0.out.cell 0
  have cX1 : w0.cell? ⟨w.heap.size, 1, none⟩ = some (.slice A n c) := X0.out.cell 1
  go_wp2_with fail
  clear cX0 cX1
  (with_reducible refine (bs.implSd s m _).mono ?_)
  rintro e wq ⟨rfl, rfl⟩
  obtain ⟨d, hd⟩ : ∃ v, sqd s m = v := ⟨_, rfl⟩
  have HD := Lib.hid hd
  clear hd
  rw [HD.out]
  obtain ⟨v, hv⟩ : ∃ v, vr ⟨s, xs⟩ = v := ⟨_, rfl⟩
  have HV := Lib.hid hv
  clear hv
  obtain ⟨v2, hv2⟩ : ∃ v, decide (0 ≤ d ∧ d ≤ 2047) = v := ⟨_, rfl⟩
  have HV2 := Lib.hid hv2
  clear hv2
  have cX0 : w0.cell? ⟨w.heap.size, 0, none⟩ = some (.int .i64 s) := X0.out.cell 0
  have cX1 : w0.cell? ⟨w.heap.size, 1, none⟩ = some (.slice A n c) := X0.out.cell 1
  go_wp2_with (refine stw.list_load rfl 31 _ rfl (w.heap.size) rfl 31 _ X0.out Try.underlying31 rfl ux.szRob ?_)
  clear cX0 cX1
  (with_reducible refine (implVr s xs lo hi A n c _ R0.out).mono ?_)
  rintro e w1 hp
  obtain ⟨rfl, hb⟩ := b_parts HV.out hp
  clear hp
  have SS1 := Lib.hid hb.size
  have B1 := Lib.hid (B0.out.trans (hb.mono B0.out.size))
  have X1 := Lib.hid (X0.out.below hb)
  have Z1 := Lib.hid (Z0.out.below hb)
  have R1 := Lib.hid (R0.out.below hb)
  clear hb  B0 X0 Z0 R0
  obtain ⟨r2, hr2⟩ : ∃ v, mvs ⟨s, xs⟩ m = v := ⟨_, rfl⟩
  have HR2 := Lib.hid hr2
  clear hr2
  rw [HR2.out]
  cases v with
  | true =>
    go_wp2_with fail
    (with_reducible refine (ahead d v2 _ HV2.out).mono ?_)
    rintro e wq ⟨rfl, rfl⟩
    cases v2 with
    | true =>
      have hd9 := of_decide_eq_true HV2.out
      obtain ⟨k, rfl⟩ : ∃ k : Nat, d = k := ⟨d.toNat, by omega⟩
      have HK2 := Lib.hid (show k ≤ 2047 by omega)
      clear hd9
      have HVV := Lib.hid (show vr ⟨s, xs⟩ = true from HV.out)
      have cX0 : w1.cell? ⟨w.heap.size, 0, none⟩ = some (.int .i64 s) := X1.out.cell 0
      have cX1 : w1.cell? ⟨w.heap.size, 1, none⟩ = some (.slice A n c) := X1.out.cell 1
      go_wp2_with (refine stw.list_load rfl 31 _ rfl (w.heap.size) rfl 31 _ X1.out Try.underlying31 rfl ux.szRob ?_)
      clear cX0 cX1
      obtain ⟨L0, hL0⟩ : ∃ m, w1.heap.size = m := ⟨_, rfl⟩
      have HL0 := Lib.hid (show w.heap.size + 1 < L0 by have h1 := Z1.out.lt; omega)
      (with_reducible refine (implRo s xs lo hi A n c _ R1.out HVV.out).mono ?_)
      rintro e w2 hp
      obtain ⟨be, rfl, hE, hbe, hb⟩ := rg_parts hp
      clear hp
      have HBE := Lib.hid (show L0 ≤ be ∧ be < w2.heap.size from ⟨by omega, hE.lt⟩)
      have HLN := Lib.hid (show L0 ≤ w2.heap.size by have h1 := hE.lt; omega)
      clear hbe hL0
      have SS2 := Lib.hid hb.size
      have B2 := Lib.hid (B1.out.trans (hb.mono B1.out.size))
      have X2 := Lib.hid (X1.out.below hb)
      have Z2 := Lib.hid (Z1.out.below hb)
      have R2 := Lib.hid (R1.out.below hb)
      clear hb B1 X1 Z1 R1
      have E2 := Lib.hid hE
      clear hE
      obtain ⟨hok, hpe⟩ := vr_ok HVV.out
      have HOKW := Lib.hid hok
      have HPE := Lib.hid hpe
      clear hok hpe
      have hX0 : Bx 78 (w2.alloc (.cells vcs0 78)) w2.heap.size vcs0 := Bx.made _ _ _
      have hS0 : vcs0.size = (vcs (start ⟨s, xs⟩) (.slice (some ⟨be, 0, none⟩) 0 0)).size := (vcs_size none16_len).trans (vcs_size HOKW.out.len).symm
      have hS1 := szRv (t := start ⟨s, xs⟩) (hd := .slice (some ⟨be, 0, none⟩) 0 0) HOKW.out.len
      have hO1 := vcs_one (start ⟨s, xs⟩) (some ⟨be, 0, none⟩) 0 0
      go_upto_region 5 with (refine stw.list_store rfl 78 _ _ rfl (w2.heap.size) (vcs (start ⟨s, xs⟩) (.slice (some ⟨be, 0, none⟩) 0 0)) rfl rfl 78 _ hX0 hS0 hS1 hO1 ?_; intro wz hz)
      have hb := hz.on ((Below.refl w2.heap.size w2).alloc (Nat.le_refl _) (.cells vcs0 78)) (Nat.le_refl _)
      have hE := hz.keep (E2.out.below (bx.below_box _ _)) (by have := HBE.out; omega)
      have hV := hz.box
      clear hz hX0 hS0 hS1 hO1
      obtain ⟨w3, hwz⟩ : ∃ w5, wz = w5 := ⟨_, rfl⟩
      rw [hwz] at hb hE hV ⊢
      clear hwz
      have hr := Rv.start_ (t := start ⟨s, xs⟩) hE hV (by have := HBE.out; omega) rfl HOKW.out.len HOKW.out.s (fun x hx => ⟨start_wf HWF.out x hx, HOKW.out.b x hx⟩)
      clear hE hV
      obtain ⟨b9, hb9⟩ : ∃ b, w2.heap.size = b := ⟨_, rfl⟩
      have HB9 := Lib.hid (show L0 ≤ b9 by have := HLN.out; omega)
      rw [hb9] at hr
      (try rw [hb9])
      clear hb9
      have HOL := Lib.hid (show (start ⟨s, xs⟩).out.length ≤ 1000000 from Nat.zero_le _)
      clear E2
      have SS3 := Lib.hid hb.size
      have B3 := Lib.hid (B2.out.trans (hb.mono B2.out.size))
      have X3 := Lib.hid (X2.out.below hb)
      have Z3 := Lib.hid (Z2.out.below hb)
      have R3 := Lib.hid (R2.out.below hb)
      clear hb B2 X2 Z2 R2
      have RV3 := Lib.hid hr
      have HFP3 := Lib.hid (show ∀ q, q ∈ [be] → L0 ≤ q from fun q hq => by have := List.mem_singleton.1 hq; have := HBE.out; omega)
      clear hr
      go_wp2_with fail
      (with_reducible refine (advance (start ⟨s, xs⟩) k b9 [be] _ RV3.out (by have := HK2.out; omega) HOL.out).mono ?_)
      rintro e w4 hp
      obtain ⟨rfl, f6, hr, hf, hk⟩ := av_parts hp
      clear hp
      have SS4 := Lib.hid hk.size
      have B4 := Lib.hid (B3.out.trans (ux.ks_bel hk (fun b hb => by rcases List.mem_cons.1 hb with h9 | h9; (have hs0 := LTX.out; have hs1 := LTZ.out; have hs2 := LHR.out; have hs3 := SS1.out; have hs4 := SS2.out; have hs5 := SS3.out; have hs6 := HL0.out; have hs7 := HB9.out; have hs8 := HLN.out; omega); (have h8 := HFP3.out _ h9; have hs0 := LTX.out; have hs1 := LTZ.out; have hs2 := LHR.out; have hs3 := SS1.out; have hs4 := SS2.out; have hs5 := SS3.out; have hs6 := HL0.out; have hs7 := HB9.out; have hs8 := HLN.out; omega)) B3.out.size))
      have Z4 := Lib.hid (ux.bx_ks Z3.out hk (fun hm => by rcases List.mem_cons.1 hm with h9 | h9; (have hs0 := LTX.out; have hs1 := LTZ.out; have hs2 := LHR.out; have hs3 := SS1.out; have hs4 := SS2.out; have hs5 := SS3.out; have hs6 := HL0.out; have hs7 := HB9.out; have hs8 := HLN.out; omega); (have h8 := HFP3.out _ h9; have hs0 := LTX.out; have hs1 := LTZ.out; have hs2 := LHR.out; have hs3 := SS1.out; have hs4 := SS2.out; have hs5 := SS3.out; have hs6 := HL0.out; have hs7 := HB9.out; have hs8 := HLN.out; omega)))
      have HFP4 := Lib.hid (show ∀ q, q ∈ f6 → L0 ≤ q from fun q hq => by rcases hf q hq with h9 | h9; exact HFP3.out q h9; (have hs0 := LTX.out; have hs1 := LTZ.out; have hs2 := LHR.out; have hs3 := SS1.out; have hs4 := SS2.out; have hs5 := SS3.out; have hs6 := HL0.out; have hs7 := HB9.out; have hs8 := HLN.out; omega))
      have RV4 := Lib.hid hr
      clear hr hf hk RV3 HFP3 B3 Z3
      go_wp2_with fail
      (with_reducible refine (ready (advS (start ⟨s, xs⟩) k) b9 f6 _ RV4.out (by have h1 := adv_out (start ⟨s, xs⟩) k; have h2 := HOKW.out.len; have h3 : (start ⟨s, xs⟩).out.length = 0 := rfl; omega)).mono ?_)
      rintro e w5 hp
      obtain ⟨rfl, f7, hr, hf, hk⟩ := av_parts hp
      clear hp
      have SS5 := Lib.hid hk.size
      have B5 := Lib.hid (B4.out.trans (ux.ks_bel hk (fun b hb => by rcases List.mem_cons.1 hb with h9 | h9; (have hs0 := LTX.out; have hs1 := LTZ.out; have hs2 := LHR.out; have hs3 := SS1.out; have hs4 := SS2.out; have hs5 := SS3.out; have hs6 := HL0.out; have hs7 := HB9.out; have hs8 := HLN.out; have hs9 := SS4.out; omega); (have h8 := HFP4.out _ h9; have hs0 := LTX.out; have hs1 := LTZ.out; have hs2 := LHR.out; have hs3 := SS1.out; have hs4 := SS2.out; have hs5 := SS3.out; have hs6 := HL0.out; have hs7 := HB9.out; have hs8 := HLN.out; have hs9 := SS4.out; omega)) B4.out.size))
      have Z5 := Lib.hid (ux.bx_ks Z4.out hk (fun hm => by rcases List.mem_cons.1 hm with h9 | h9; (have hs0 := LTX.out; have hs1 := LTZ.out; have hs2 := LHR.out; have hs3 := SS1.out; have hs4 := SS2.out; have hs5 := SS3.out; have hs6 := HL0.out; have hs7 := HB9.out; have hs8 := HLN.out; have hs9 := SS4.out; omega); (have h8 := HFP4.out _ h9; have hs0 := LTX.out; have hs1 := LTZ.out; have hs2 := LHR.out; have hs3 := SS1.out; have hs4 := SS2.out; have hs5 := SS3.out; have hs6 := HL0.out; have hs7 := HB9.out; have hs8 := HLN.out; have hs9 := SS4.out; omega)))
      have HFP5 := Lib.hid (show ∀ q, q ∈ f7 → L0 ≤ q from fun q hq => by rcases hf q hq with h9 | h9; exact HFP4.out q h9; (have hs0 := LTX.out; have hs1 := LTZ.out; have hs2 := LHR.out; have hs3 := SS1.out; have hs4 := SS2.out; have hs5 := SS3.out; have hs6 := HL0.out; have hs7 := HB9.out; have hs8 := HLN.out; have hs9 := SS4.out; omega))
      have RV5 := Lib.hid hr
      clear hr hf hk RV4 HFP4 B4 Z4
      go_upto_region 7 with fail
      have HE := Lib.hid (show r2 = (buf (runS (advS (start ⟨s, xs⟩) k)), (runS (advS (start ⟨s, xs⟩) k)).out) by rw [← HR2.out]; exact mvs_yes (by unfold may; rw [HV.out, HD.out, HV2.out]; rfl) HD.out)
      obtain ⟨A5, n5, c5, hX5, hO5, hbf5, hlen5⟩ := RV5.out
      have HX5 := Lib.hid hX5
      have HO5 := Lib.hid hO5
      have HBF5 := Lib.hid hbf5
      have HT5 := Lib.hid hlen5
      have HLB5 := Lib.hid hX5.lt
      clear hX5 hO5 hbf5 hlen5
      have HZW := Lib.hid (show w.heap.size + 1 < w5.heap.size from Z5.out.lt)
      obtain ⟨r5, hr5⟩ : ∃ r, buf ((runS (advS (start ⟨s, xs⟩) k))) = r := ⟨_, rfl⟩
      have HR5 := Lib.hid hr5
      clear hr5
      refine reg.region_free (rgp.EA 4 reg.Bel (E7 (w.heap.size + 1))) 32 [(4, 29)] [some [], some [(0, 28)], some [], some [(2, 30)], some [(1, 29)], some [(3, 31)]] [(0, 28), (1, 29), (2, 30), (3, 31), (5, 5)]
        (C7 w5 (w.heap.size + 1))
        (rgp.RA 4 [rgp.is (.agg (vcs ((runS (advS (start ⟨s, xs⟩) k))) (.slice A5 n5 c5))), bufv w5 (w.heap.size + 1) r5 HZW.out, rgp.is (.pointer (some ⟨b9, 33, none⟩)), rgp.is (.slice A5 n5 c5), rgp.val fun _ => True, rgp.is (.slice A5 n5 c5)] (stv (w.heap.size + 1)))
        (by kernel_rfl) (by kernel_rfl) rfl
        (c7_keep 4 w5 _)
        (rgp.ra_keep (stv_keep _)) ⟨⟨rfl, rfl, rfl, Nat.le_refl _, fun _ _ _ => rfl⟩, ⟨_, rfl, Z5.out.same rfl⟩⟩ (by kernel_rfl) ⟨?_, ?_, ?_, ?_, ?_, ?_, trivial⟩ ?_
      · refine fun w8 hc K hK => ?_
        (try simp only [Act.put, List.setIfInBounds_toArray, List.set_cons_zero, List.set_cons_succ])
        rw [if_pos (by rfl)]
        refine stw.wp_load_bx 78 _ rfl b9 rfl 78 _ (show Bx 78 w8 b9 _ from ux.bx_ks HX5.out hc.1 (fun hm => by have h9 := List.mem_singleton.1 hm; have hs0 := LTX.out; have hs1 := LTZ.out; have hs2 := LHR.out; have hs3 := SS1.out; have hs4 := SS2.out; have hs5 := SS3.out; have hs6 := HL0.out; have hs7 := HB9.out; have hs8 := HLN.out; have hs9 := SS4.out; have hs10 := SS5.out; omega)) Try.underlying78 rfl (szRv HT5.out.1) ?_
        exact hK _ _ (rgp.ra1 rfl rfl) (rgp.ea1 rfl (Below.refl _ _))
      · refine fun w8 hc v0 h0 K hK => ?_
        have h0 := rgp.ra1_out rfl h0
        obtain rfl : v0 = .agg (vcs ((runS (advS (start ⟨s, xs⟩) k))) (.slice A5 n5 c5)) := h0
        (try simp only [Act.put, List.setIfInBounds_toArray, List.set_cons_zero, List.set_cons_succ])
        have hcp8 := implBuf ((runS (advS (start ⟨s, xs⟩) k))) (.slice A5 n5 c5) w8 HT5.out.1 HT5.out.2.1 HT5.out.2.2
        rw [HR5.out] at hcp8
        go_simp
        (with_reducible refine hcp8.mono ?_)
        rintro e w3 hp
        obtain ⟨A7, n7, c7, f7, rfl, ho7, hb7⟩ := ro_parts hp
        exact hK _ _ (rgp.ra1 rfl ⟨A7, n7, c7, f7, _, rfl, oo_narrow ho7 (fun q hq => by have h9 := (ho7.inn q hq).1; have h8 := hc.1.size; omega)⟩) (rgp.ea1 rfl hb7)
      · refine fun w8 hc K hK => ?_
        (try simp only [Act.put, List.setIfInBounds_toArray, List.set_cons_zero, List.set_cons_succ])
        go_simp
        exact hK (.pointer (some ⟨b9, 33, none⟩)) _ (rgp.ra1 rfl rfl) (rgp.ea1 rfl (Below.refl _ _))
      · refine fun w8 hc v2 h2 K hK => ?_
        have h2 := rgp.ra1_out rfl h2
        obtain rfl : v2 = .pointer (some ⟨b9, 33, none⟩) := h2
        (try simp only [Act.put, List.setIfInBounds_toArray, List.set_cons_zero, List.set_cons_succ])
        have c0 : w8.cell? ⟨b9, 33, none⟩ = some (.slice A5 n5 c5) := (Bx.cell (show Bx 78 w8 b9 _ from ux.bx_ks HX5.out hc.1 (fun hm => by have h9 := List.mem_singleton.1 hm; have hs0 := LTX.out; have hs1 := LTZ.out; have hs2 := LHR.out; have hs3 := SS1.out; have hs4 := SS2.out; have hs5 := SS3.out; have hs6 := HL0.out; have hs7 := HB9.out; have hs8 := HLN.out; have hs9 := SS4.out; have hs10 := SS5.out; omega)) 33).trans (vcs_hd HT5.out.1)
        go_simp
        exact hK (.slice A5 n5 c5) _ (rgp.ra1 rfl rfl) (rgp.ea1 rfl (Below.refl _ _))
      · refine fun w8 hc v1 h1 K hK => ?_
        have h1 := rgp.ra1_out rfl h1
        obtain ⟨A7, n7, c7, f7, hi7, rfl, ho7⟩ := h1
        (try simp only [Act.put, List.setIfInBounds_toArray, List.set_cons_zero, List.set_cons_succ])
        obtain ⟨cur, hcur, hXc⟩ := hc.2
        refine stw.step_store rfl 31 _ _ rfl (w.heap.size + 1) #[.int .i64 r5.Start, .slice A7 n7 c7] rfl rfl 31 _ hXc (by rw [hcur]; rfl) ux.szRob (ux.oneRob _ _ _ _) ?_
        intro wz hz
        exact hK undef _ (rgp.ra2 ⟨_, rfl, hz.box⟩) (rgp.ea2 ⟨⟨hz.below.os, hz.below.tape, hz.below.output, hz.below.size, fun q _ hq => hz.other q (fun e => hq (by rw [e]; exact List.mem_singleton.2 rfl))⟩, ⟨_, rfl, hz.box⟩⟩)
      · refine fun w8 hc v3 h3 K hK => ?_
        have h3 := rgp.ra1_out rfl h3
        obtain rfl : v3 = .slice A5 n5 c5 := h3
        (try simp only [Act.put, List.setIfInBounds_toArray, List.set_cons_zero, List.set_cons_succ])
        go_simp
        exact hK (.slice A5 n5 c5) _ (rgp.ra1 rfl rfl) (rgp.ea1 rfl (Below.refl _ _))
      refine fun w9 hc v0 h0 v1 h1 v2 h2 v3 h3 v5 h5 => ?_
      have h0 := rgp.ra1_out rfl h0
      obtain rfl : v0 = .agg (vcs ((runS (advS (start ⟨s, xs⟩) k))) (.slice A5 n5 c5)) := h0
      have h2 := rgp.ra1_out rfl h2
      obtain rfl : v2 = .pointer (some ⟨b9, 33, none⟩) := h2
      have h3 := rgp.ra1_out rfl h3
      obtain rfl : v3 = .slice A5 n5 c5 := h3
      have h5 := rgp.ra1_out rfl h5
      obtain rfl : v5 = .slice A5 n5 c5 := h5
      (try simp only [reg.Obs])
      intro hrf
      have h1 := rgp.ra1_out rfl h1
      obtain ⟨A7, n7, c7, f7, hi7, rfl, ho7⟩ := h1
      have hg := rgp.ra2_out (hrf (4, 29) (by simp) rfl)
      clear hrf
      obtain ⟨cs7, he7, hZ7⟩ := hg
      have he7 : cs7 = #[.int .i64 r5.Start, .slice A7 n7 c7] := (Value.agg.inj he7).symm
      subst he7
      (try simp only [Act.put, List.setIfInBounds_toArray, List.set_cons_zero, List.set_cons_succ])
      have HB := Lib.hid (B5.out.trans (ux.ks_bel hc.1 (fun q hq => by have h9 := List.mem_singleton.1 hq; omega) B5.out.size))
      have HOD := Lib.hid (HO5.out.ks hc.1 (fun q h1 h2 => by have h9 := List.mem_singleton.1 h2; have h8 := HFP5.out _ h1; have hs0 := LTX.out; have hs1 := LTZ.out; have hs2 := LHR.out; have hs3 := SS1.out; have hs4 := SS2.out; have hs5 := SS3.out; have hs6 := HL0.out; have hs7 := HB9.out; have hs8 := HLN.out; have hs9 := SS4.out; have hs10 := SS5.out; omega))
      have HO7 := Lib.hid ho7
      have HZ7 := Lib.hid hZ7
      have HSZ9 := Lib.hid hc.1.size
      clear hc ho7 hZ7
      go_wp2_with fail
      (try simp only [Exit.inBlock, Exit.then])
      refine bodyPost_ret (v := .tuple #[.agg #[.int .i64 r5.Start, .slice A7 n7 c7], .slice A5 n5 c5]) ?_ rfl ?_
      · rw [results_cell_tmp1 rfl]
        exact stw.back2 HZ7.out Try.underlying31 rfl ux.szRob _
      · (first | rw [HE.out] | rw [HR2.out, HE.out]); rw [HR5.out]; exact ⟨_, _, _, _, _, _, _, _, rfl, HO7.out.wide (by have h1 := B5.out.size; omega), oo_narrow (HOD.out.wide (Nat.le_refl _)) (fun q hq => by have h9 := HFP5.out q hq; have hs0 := LTX.out; have hs1 := LTZ.out; have hs2 := LHR.out; have hs3 := SS1.out; have hs4 := SS2.out; have hs5 := SS3.out; have hs6 := HL0.out; have hs7 := HB9.out; have hs8 := HLN.out; have hs9 := SS4.out; have hs10 := SS5.out; omega), fun q h1 h2 => by have h9 := (HO7.out.inn q h1).1; have h8 := (HO5.out.inn q h2).2; omega, HB.out⟩
    | false =>
      have HE := Lib.hid (show r2 = (⟨s, xs⟩, []) by rw [← HR2.out]; exact mvs_no (by unfold may; rw [HV.out, HD.out, HV2.out]; rfl))
      have cX0 : w1.cell? ⟨w.heap.size, 0, none⟩ = some (.int .i64 s) := X1.out.cell 0
      have cX1 : w1.cell? ⟨w.heap.size, 1, none⟩ = some (.slice A n c) := X1.out.cell 1
      go_wp2_with (refine stw.list_load rfl 31 _ rfl (w.heap.size) rfl 31 _ X1.out Try.underlying31 rfl ux.szRob ?_)
      clear cX0 cX1
      (with_reducible refine (implCp s xs lo hi A n c _ R1.out HN.out HBD.out).mono ?_)
      rintro e w2 hp
      obtain ⟨A3, n3, c3, f3, rfl, ho, hb⟩ := ro_parts hp
      clear hp
      have SS2 := Lib.hid hb.size
      have B2 := Lib.hid (B1.out.trans (hb.mono B1.out.size))
      have X2 := Lib.hid (X1.out.below hb)
      have Z2 := Lib.hid (Z1.out.below hb)
      have R2 := Lib.hid (R1.out.below hb)
      clear hb B1 X1 Z1 R1
      have O2 := Lib.hid ho
      clear ho
      obtain ⟨be, hbe⟩ : ∃ b, w2.heap.size = b := ⟨_, rfl⟩
      have hE := Bx.made 22 w2 #[]
      have hbE := bx.below_box w2 (.cells #[] 22)
      rw [hbe] at hE
      have HL9 := Lib.hid (show w.heap.size + 1 < be by have h1 := Z2.out.lt; omega)
      go_wp2_with (refine stw.list_store rfl 31 _ _ rfl (w.heap.size + 1) #[.int .i64 s, .slice A3 n3 c3] rfl rfl 31 _ (Z2.out.below hbE) rfl ux.szRob (ux.oneRob _ _ _ _) ?_; intro wz hz)
      have hB := hz.on (B2.out.trans (hbE.mono B2.out.size)) (show w.heap.size ≤ w.heap.size + 1 by omega)
      have hE2 := hz.keep hE (by have := HL9.out; omega)
      have hO : OO rowNf wz w.heap.size wz.heap.size f3 (.slice A3 n3 c3) xs := ((O2.out.below hbE).same hz.below.size fun b h1 h2 => hz.other b (by have hs0 := LTX.out; have hs1 := LTZ.out; have hs2 := LHR.out; have hs3 := SS1.out; have hs4 := SS2.out; omega)).wide (by have hs0 := LTX.out; have hs1 := LTZ.out; have hs2 := LHR.out; have hs3 := SS1.out; have hs4 := SS2.out; omega)
      (try simp only [Exit.inBlock, Exit.then])
      refine bodyPost_ret (v := .tuple #[.agg #[.int .i64 s, .slice A3 n3 c3], .slice (some ⟨be, 0, none⟩) 0 0]) ?_ rfl ?_
      · rw [results_cell_tmp1 rfl]
        exact stw.back2 hz.box Try.underlying31 rfl ux.szRob _
      · (first | rw [HE.out] | rw [HR2.out, HE.out]); exact ⟨_, _, _, _, _, _, _, _, rfl, hO, ((ux.row_empty 22 ux.bytes hE2).wide (by have := HL9.out; omega)), fun b h1 h2 => by have h3 := (O2.out.inn b h1).2; have h4 := List.mem_singleton.1 h2; omega, hB⟩
  | false =>
    have HE := Lib.hid (show r2 = (⟨s, xs⟩, []) by rw [← HR2.out]; exact mvs_no (by unfold may; rw [HV.out, HD.out, HV2.out]; rfl))
    have cX0 : w1.cell? ⟨w.heap.size, 0, none⟩ = some (.int .i64 s) := X1.out.cell 0
    have cX1 : w1.cell? ⟨w.heap.size, 1, none⟩ = some (.slice A n c) := X1.out.cell 1
    go_wp2_with (refine stw.list_load rfl 31 _ rfl (w.heap.size) rfl 31 _ X1.out Try.underlying31 rfl ux.szRob ?_)
    clear cX0 cX1
    (with_reducible refine (implCp s xs lo hi A n c _ R1.out HN.out HBD.out).mono ?_)
    rintro e w2 hp
    obtain ⟨A3, n3, c3, f3, rfl, ho, hb⟩ := ro_parts hp
    clear hp
    have SS2 := Lib.hid hb.size
    have B2 := Lib.hid (B1.out.trans (hb.mono B1.out.size))
    have X2 := Lib.hid (X1.out.below hb)
    have Z2 := Lib.hid (Z1.out.below hb)
    have R2 := Lib.hid (R1.out.below hb)
    clear hb B1 X1 Z1 R1
    have O2 := Lib.hid ho
    clear ho
    obtain ⟨be, hbe⟩ : ∃ b, w2.heap.size = b := ⟨_, rfl⟩
    have hE := Bx.made 22 w2 #[]
    have hbE := bx.below_box w2 (.cells #[] 22)
    rw [hbe] at hE
    have HL9 := Lib.hid (show w.heap.size + 1 < be by have h1 := Z2.out.lt; omega)
    go_wp2_with (refine stw.list_store rfl 31 _ _ rfl (w.heap.size + 1) #[.int .i64 s, .slice A3 n3 c3] rfl rfl 31 _ (Z2.out.below hbE) rfl ux.szRob (ux.oneRob _ _ _ _) ?_; intro wz hz)
    have hB := hz.on (B2.out.trans (hbE.mono B2.out.size)) (show w.heap.size ≤ w.heap.size + 1 by omega)
    have hE2 := hz.keep hE (by have := HL9.out; omega)
    have hO : OO rowNf wz w.heap.size wz.heap.size f3 (.slice A3 n3 c3) xs := ((O2.out.below hbE).same hz.below.size fun b h1 h2 => hz.other b (by have hs0 := LTX.out; have hs1 := LTZ.out; have hs2 := LHR.out; have hs3 := SS1.out; have hs4 := SS2.out; omega)).wide (by have hs0 := LTX.out; have hs1 := LTZ.out; have hs2 := LHR.out; have hs3 := SS1.out; have hs4 := SS2.out; omega)
    (try simp only [Exit.inBlock, Exit.then])
    refine bodyPost_ret (v := .tuple #[.agg #[.int .i64 s, .slice A3 n3 c3], .slice (some ⟨be, 0, none⟩) 0 0]) ?_ rfl ?_
    · rw [results_cell_tmp1 rfl]
      exact stw.back2 hz.box Try.underlying31 rfl ux.szRob _
    · (first | rw [HE.out] | rw [HR2.out, HE.out]); exact ⟨_, _, _, _, _, _, _, _, rfl, hO, ((ux.row_empty 22 ux.bytes hE2).wide (by have := HL9.out; omega)), fun b h1 h2 => by have h3 := (O2.out.inn b h1).2; have h4 := List.mem_singleton.1 h2; omega, hB⟩
end Go.Proofs.Ytmmhleobgpgliaa.ro
end

section
namespace Go.Proofs.Ytmmhleobgpgliaa.ro
open Go.RowKit sl harn bx stw mrw
open ux (Nf Rob RR OO row rowB rowNf nf rob)
open bs (nsq sqd)
set_option linter.unusedVariables false
set_option linter.unusedSimpArgs false
section
variable {E : TypeId} {k : IntKind} {w w' : World} {lo hi n cap : Nat} {A : Option Addr} {zs : List Int}
theorem own_blk (A : Option Addr) (n c : Nat) : (Value.slice A n c).ownBlock = blkOf A := by cases A <;> rfl
/-- An append onto a slice of numbers of the call's own: the old one stays; only its block may change. -/
theorem num_more {P : Program} (t ty E : TypeId) (i : TypeInfo) (z : Value) (k : IntKind) (h1 : P.underlying t = some (.slice E)) (h2 : P.info? E = some i) (h3 : i.zero = some z) (h4 : i.size = 1) (h5 : i.bytes ≤ 8) (h6 : z.cells.size = 1)
    {w : World} {lo hi lo2 hi2 n cap m c : Nat} {A B : Option Addr} {zs ys : List Int} (ho : Ow E k w lo hi A n cap zs) (hr : Rd k w lo2 hi2 B m c ys) (hn : n + m ≤ 1073741824) (hlo : lo ≤ w.heap.size) :
    ∃ A' cap' w', (Builtin.append_ #[t, t] ty #[.slice A n cap, .slice B m c]).run P w = .ok (.slice A' (n + m) cap') w' ∧ Ow E k w' lo w'.heap.size A' (n + m) cap' (zs ++ ys) ∧ w.grownBy w' (blkOf A) ∧ Ow E k w' lo hi A n cap zs ∧ (blkOf A' = blkOf A ∨ ∀ q, blkOf A' = some q → w.heap.size ≤ q) := by
  have hwf : Wf k (zs ++ ys) := ho.wf.append hr.wf
  cases B with
  | none =>
    have hm : m = 0 := by
      rcases Nat.eq_zero_or_pos m with h | h
      · exact h
      · obtain ⟨b, off, e, _⟩ := hr.at_ h; cases e
    subst hm
    have hy : ys = [] := List.eq_nil_of_length_eq_zero hr.len
    subst hy
    refine ⟨A, cap, w, ?_, by simpa using ho.up, grown_below (Below.refl _ _) _, ho, .inl rfl⟩
    rcases ho.form with ⟨rfl, rfl, rfl⟩ | ⟨g, cur, rfl, _, _, _, hnc, _⟩
    · simp [Builtin.append_, run_underlying h1, sizeOf, typeInfo, h2, Builtin.lenOf, Builtin.firstCells]
    · simp [Builtin.append_, run_underlying h1, sizeOf, typeInfo, h2, Builtin.lenOf, Builtin.firstCells, hnc, storeCells]
  | some ad =>
    have hcells : ∀ j u, (ys.map (Value.int k))[j]? = some u → w.cell? (ad.add j) = some u := by
      intro j u hu
      have hj : j < ys.length := by
        have := (List.getElem?_eq_some_iff.1 hu).1
        simpa using this
      have hl := hr.len
      obtain ⟨b, off, e, _, _, hc⟩ := hr.at_ (i := j) (by omega)
      injection e with e
      subst e
      have e2 : (⟨b, off, none⟩ : Addr).add j = ⟨b, off + j, none⟩ := by unfold Addr.add; split <;> simp_all
      rw [e2, hc]
      rw [List.getElem?_map, List.getElem?_eq_getElem hj] at hu
      rw [List.getD_eq_getElem?_getD, List.getElem?_eq_getElem hj]
      simpa using hu
    have hb8 : (n + m) * i.bytes ≤ 140737488355328 := by
      have := Nat.mul_le_mul hn h5
      omega
    obtain ⟨v', w', hrun, g1, g2, _, g3⟩ := run_append_own_at (P := P) w lo t ty E i z 1 i.bytes h1 h2 h3 h4 rfl h6 (by omega) _ n _ ho.1 ad m c (ys.map (Value.int k)) (by simpa using hr.len) hcells (one_cells k ys) (by unfold maxLen; omega) hb8 hlo
    rw [← List.map_append] at g1
    obtain ⟨A', cap', rfl, hO⟩ := Ow.of_own g1 hwf
    rw [own_blk] at g2
    have same : ∀ {v : Value} {u : World}, (Builtin.append_ #[t, t] ty #[.slice A n cap, .slice (some ad) m c]).run P w = .ok v u → w' = u := by
      intro v u hu
      rw [hrun] at hu
      injection hu
    have hblk : blkOf A' = blkOf A ∨ ∀ q, blkOf A' = some q → w.heap.size ≤ q := by
      rw [own_blk, own_blk] at g3
      rcases g3 with g3 | g3
      · exact .inl g3
      · exact .inr fun q hq => by rw [g3] at hq; injection hq with hq; omega
    refine ⟨A', cap', w', hrun, hO, g2, ?_, hblk⟩
    rcases ho.form with ⟨rfl, rfl, rfl⟩ | ⟨g, cur, rfl, hg1, hg2, hcur, hnc, hcm, hcs, htake⟩
    · have hz : zs = [] := List.eq_nil_of_length_eq_zero ho.len
      subst hz
      exact Ow.nil_ _ _ _ _ _ (by have := ho.hi_; have := g2.size; omega)
    · by_cases hroom : n + m ≤ cap
      · obtain ⟨w2, hr2, q1, q2⟩ := run_append_fits (P := P) w lo t ty E i 1 h1 h2 h4 g n cap (zs.map (Value.int k)) ho.1 ad m c (ys.map (Value.int k)) (by simpa using hr.len) hcells (one_cells k ys) hroom
        obtain rfl := same hr2
        obtain ⟨cur', k1, k2, k3, k4, k5, k6⟩ := mrw.row_at q1
        refine ⟨⟨ho.1.1, .inr ⟨g, cap, cur', rfl, k2, k1, hnc, hcm, k5, ?_⟩⟩, ho.wf, by have := ho.hi_; have := g2.size; omega, ho.2.2.2⟩
        have := congrArg (List.take (n * 1)) k6
        rw [List.take_take, Nat.min_eq_left (Nat.mul_le_mul_right _ (by omega)), List.take_append_of_le_length (by rw [ho.1.1]; exact Nat.le_refl _)] at this
        exact this.trans (List.take_of_length_le (by rw [ho.1.1]; exact Nat.le_refl _))
      · have holds : ∀ j u, (zs.map (Value.int k))[j]? = some u → w.cell? ((⟨g, 0, none⟩ : Addr).add j) = some u := ho.1.cells (g := g) rfl
        have hr2 := run_append_grow (P := P) w t ty E i z h1 h2 h3 ⟨g, 0, none⟩ n cap (zs.map (Value.int k)) (by rw [h4]; exact ho.1.1) holds ad m c (ys.map (Value.int k)) (by rw [h4]; simpa using hr.len) hcells (by omega) (by omega) (growslice_fits (by omega) hb8)
        rw [same hr2]
        exact ho.below ⟨rfl, rfl, rfl, by simp, fun k hk => heap_alloc_old w.drew _ hk⟩
/-- The walk's form. -/
theorem wpList_num {P : Program} (w : World) {ops : Array Oper} {rest : List Oper} {o : Oper} {a : Act} {Q : Exit → Act → World → Prop} (hg : o.guard = none) (s x : Operand) (t : TypeId)
    (hop : o.op = .call { callee := .builtin .append, args := #[s, x], argTypes := #[t, t] })
    (E : TypeId) (i : TypeInfo) (z : Value) (k : IntKind) (h1 : P.underlying t = some (.slice E)) (h2 : P.info? E = some i) (h3 : i.zero = some z) (h4 : i.size = 1) (h5 : i.bytes ≤ 8) (h6 : z.cells.size = 1)
    {lo hi lo2 hi2 n cap m c : Nat} {A B : Option Addr} {zs ys : List Int} (hs : a.eval s = .slice A n cap) (hx : a.eval x = .slice B m c) (ho : Ow E k w lo hi A n cap zs) (hr : Rd k w lo2 hi2 B m c ys) (hn : n + m ≤ 1073741824) (hlo : lo ≤ w.heap.size)
    (hK : ∀ A' cap' w', Ow E k w' lo w'.heap.size A' (n + m) cap' (zs ++ ys) → w.grownBy w' (blkOf A) → Ow E k w' lo hi A n cap zs → (blkOf A' = blkOf A ∨ ∀ q, blkOf A' = some q → w.heap.size ≤ q) → wpList P ops Q rest (a.put o.dst (.slice A' (n + m) cap')) w') : wpList P ops Q (o :: rest) a w := by
  refine wpList_plain hg fun K hK' => ?_
  obtain ⟨A', cap', w', hrun, g1, g2, g3, g4⟩ := num_more (P := P) t o.type E i z k h1 h2 h3 h4 h5 h6 ho hr hn hlo
  unfold Oper.wp execOp
  simp only [hop, resolve, invoke, builtin, Sem.run_bind, Sem.run_pure, Result.andThen_ok, List.map_toArray, List.map_cons, List.map_nil, hs, hx, hrun]
  exact hK' _ _ (hK A' cap' w' g1 g2 g3 g4)
end
theorem part_win {ws : Win} {i : Nat} {o : Option (List Int)} (h : ws[i]? = some o) (W : World) : (part 74 (wcs ws).toArray (i * 2)).run Try.prog W = .ok (.agg #[.bool o.isSome, .string (strOfNums (o.getD []))]) W := by
  have hx : ((wcs ws).drop (i * 2)).take 2 = [.bool o.isSome, .string (strOfNums (o.getD []))] := by rw [wcs_drop, drop_at h, wcs]; rfl
  cases hq : Try.prog.info? 74 with
  | none => have := szAr; simp [hq] at this
  | some t =>
    have hs : t.size = 2 := by have := szAr; simpa [hq] using this
    simp [run_underlying Try.underlying74, part, sizeOf, typeInfo, hq, hs, go_sem, isAgg]
    rw [hx]
theorem eq_arr (o : Option (List Int)) (W : World) : (Op.equalIn 9999 74 (.agg #[.bool o.isSome, .string (strOfNums (o.getD []))]) (.agg #[.bool false, .string ByteArray.empty])).run Try.prog W = .ok o.isNone W := by
  cases o with
  | none =>
    go_simp
    first | rfl | kernel_rfl | simp [strOfNums, ByteArray.toList_eq]
  | some b => go_simp
theorem eq_items {ws : Win} (hw : ws.length = 16) (W : World) : ∀ is : List Nat, (∀ i ∈ is, i < 16) → (Op.eqItems 9999 74 2 (wcs ws).toArray (wcs none16).toArray is).run Try.prog W = .ok (is.all fun i => ((ws[i]?).getD none).isNone) W
  | [], _ => by simp [Op.eqItems]
  | i :: is, h => by
    have hi := h i List.mem_cons_self
    have h1 : ws[i]? = some ws[i] := List.getElem?_eq_getElem (by omega)
    have h2 : none16[i]? = some none := by unfold none16; rw [List.getElem?_replicate, if_pos hi]
    have p1 := part_win h1 W
    have p2 := part_win h2 W
    have p3 := eq_arr ws[i] W
    have ih := eq_items hw W is fun j hj => h j (List.mem_cons_of_mem _ hj)
    have e2 : (Value.agg #[.bool (none : Option (List Int)).isSome, .string (strOfNums ((none : Option (List Int)).getD []))]) = .agg #[.bool false, .string ByteArray.empty] := by rfl
    rw [e2] at p2
    simp only [Op.eqItems, Sem.run_bind, p1, p2, p3, Result.andThen_ok]
    rw [List.all_cons, h1, Option.getD_some]
    cases hn : ws[i].isNone
    · simp
    · simpa using ih
/-- What comparing a window with the empty one tells. -/
theorem eq_win {ws : Win} (hw : ws.length = 16) (W : World) : (binOp .neq 76 (.agg (wcs ws).toArray) (.agg (wcs none16).toArray)).run Try.prog W = .ok (.bool (!ws.all (·.isNone))) W := by
  rw [run_neq_struct]
  cases hq : Try.prog.info? 74 with
  | none => have := szAr; simp [hq] at this
  | some t =>
    rw [run_equalIn_array W 9999 (t := 76) (e := 74) (n := 16) _ _ Try.underlying76 hq, show Try.prog.cellsOf 74 = 2 by kernel_rfl, eq_items hw W (List.range 16) (fun i hi => List.mem_range.1 hi)]
    have e : (List.range 16).all (fun i => ((ws[i]?).getD none).isNone) = ws.all (·.isNone) := by
      match ws, hw with
      | [a0, a1, a2, a3, a4, a5, a6, a7, a8, a9, b0, b1, b2, b3, b4, b5], _ => rfl
    rw [e]; rfl
theorem miss_mod : ∀ (a : Win) (s t : Int), s % 4096 = t % 4096 → miss s a = miss t a
  | [], s, t, h => rfl
  | o :: a, s, t, h => by rw [miss, miss, h, miss_mod a (s + 1) (t + 1) (by omega)]
theorem miss_rep : ∀ (a : Win) (s : Int), miss s (a ++ [none]) = miss s a
  | [], s => rfl
  | o :: a, s => by
    have h1 : (o :: a ++ [none] : Win).all (·.isNone) = (o :: a : Win).all (·.isNone) := by simp
    have h2 : (o :: a ++ [none] : Win) = o :: (a ++ [none]) := rfl
    rw [h2] at h1 ⊢
    rw [miss, miss, h1, miss_rep a]
theorem miss_end {s : Int} {ws : Win} (h : ws.all (·.isNone) = true) : miss s ws = [] := by
  match ws, h with
  | [], _ => rfl
  | o :: r, h => rw [miss, if_pos h]
theorem miss_step {t : St} {o : Option (List Int)} (hl : t.ws.length = 16) (ho : t.ws[0]? = some o) (ha : t.ws.all (·.isNone) = false) : miss t.s t.ws = (if o.isNone then [t.s % 4096] else []) ++ miss (advS t 1).s (advS t 1).ws := by
  obtain ⟨s, ws, out⟩ := t
  match ws, hl, ho, ha with
  | o2 :: r, hl, ho, ha =>
    obtain rfl : o2 = o := by simpa using ho
    have e : (advS ⟨s, o2 :: r, out⟩ 1).ws = r ++ [none] := by simp [advS]
    rw [e, miss_rep]
    show miss s (o2 :: r) = _
    rw [miss, if_neg (by rw [show (o2 :: r : Win).all (·.isNone) = false from ha]; decide), miss_mod r (s + 1) (advS ⟨s, o2 :: r, out⟩ 1).s (by simp [advS])]
theorem adv_all {t : St} (hl : t.ws.length = 16) : (advS t 16).ws.all (·.isNone) = true := by
  simp only [advS, hl]
  rw [List.drop_eq_nil_of_le (by omega), List.nil_append]
  exact List.all_eq_true.2 fun o ho => by rw [List.eq_of_mem_replicate ho]; rfl
end Go.Proofs.Ytmmhleobgpgliaa.ro
end

section
namespace Go.Proofs.Ytmmhleobgpgliaa.ro
open Go.RowKit sl harn bx stw
set_option linter.unusedVariables false
open ux (Nf Rob RR OO row rowB rowNf nf rob)
open mrw (blkOf)
open bs (nsq sqd)
set_option linter.unusedSimpArgs false
open bx
open mrw (blkOf)

theorem app_empty {P : Program} (t ty E : TypeId) (i : TypeInfo) (z : Value) (k : IntKind) (h1 : P.underlying t = some (.slice E)) (h2 : P.info? E = some i) (h3 : i.zero = some z) (h4 : i.size = 1) (h5 : i.bytes ≤ 8) (h6 : z.cells.size = 1)
    {w : World} {lo hi lo2 hi2 m c q : Nat} {B : Option Addr} {ys : List Int} (ho : Ow E k w lo hi (some ⟨q, 0, none⟩) 0 0 []) (hr : Rd k w lo2 hi2 B m c ys) (hn : m ≤ 67108864) (hlo : lo ≤ w.heap.size) :
    ∃ A' cap' w', (Builtin.append_ #[t, t] ty #[.slice (some ⟨q, 0, none⟩) 0 0, .slice B m c]).run P w = .ok (.slice A' m cap') w' ∧ Ow E k w' lo w'.heap.size A' m cap' ys ∧ Below w.heap.size w w' := by
  obtain ⟨A', cap', w', hrun, g1, g2, g3, _⟩ := num_more (P := P) t ty E i z k h1 h2 h3 h4 h5 h6 ho hr (by omega) hlo
  rw [Nat.zero_add] at hrun g1
  rw [List.nil_append] at g1
  refine ⟨A', cap', w', hrun, g1, ⟨g2.os, g2.tape, g2.output, g2.size, fun b hb => ?_⟩⟩
  by_cases e : b = q
  · subst e
    rcases ho.form with ⟨e, _⟩ | ⟨g, cur, e, _, _, r1, _, _, r2, _⟩
    · cases e
    rcases g3.form with ⟨e', _⟩ | ⟨g', cur', e', _, _, s1, _, _, s2, _⟩
    · cases e'
    obtain rfl : b = g := by injection e with e; injection e
    obtain rfl : b = g' := by injection e' with e'; injection e'
    rw [r1, s1, Array.eq_empty_of_size_eq_zero r2, Array.eq_empty_of_size_eq_zero s2]
  · exact g2.block b hb (fun e2 => e (by simpa [blkOf] using e2))
/-- The append at an operation of a region. -/
theorem wp_app0 {P : Program} {o : Oper} {a : Act} {w : World} {K : Act → World → Prop} {Q : Exit → Act → World → Prop} (s x : Operand) (t : TypeId)
    (hop : o.op = .call { callee := .builtin .append, args := #[s, x], argTypes := #[t, t] })
    (E : TypeId) (i : TypeInfo) (z : Value) (k : IntKind) (h1 : P.underlying t = some (.slice E)) (h2 : P.info? E = some i) (h3 : i.zero = some z) (h4 : i.size = 1) (h5 : i.bytes ≤ 8) (h6 : z.cells.size = 1)
    {lo hi lo2 hi2 m c q : Nat} {B : Option Addr} {ys : List Int} (hs : a.eval s = .slice (some ⟨q, 0, none⟩) 0 0) (hx : a.eval x = .slice B m c) (ho : Ow E k w lo hi (some ⟨q, 0, none⟩) 0 0 []) (hr : Rd k w lo2 hi2 B m c ys) (hn : m ≤ 67108864) (hlo : lo ≤ w.heap.size)
    (hK : ∀ A' cap' w', Ow E k w' lo w'.heap.size A' m cap' ys → Below w.heap.size w w' → K (a.put o.dst (.slice A' m cap')) w') : Oper.wp P o a w K Q := by
  obtain ⟨A', cap', w', hrun, g1, g2⟩ := app_empty (P := P) t o.type E i z k h1 h2 h3 h4 h5 h6 ho hr hn hlo
  unfold Oper.wp execOp
  simp only [hop, resolve, invoke, builtin, Sem.run_bind, Sem.run_pure, Result.andThen_ok, List.map_toArray, List.map_cons, List.map_nil, hs, hx, hrun]
  exact hK A' cap' w' g1 g2
/-- A value with a row of the call's own in it, above block B. -/
def ownf (E : TypeId) (k : IntKind) (B : Nat) (zs : List Int) (f : Option Addr → Nat → Nat → Value) : reg.Stay reg.Bel :=
  ⟨fun v w => ∃ (A : Option Addr) (n c lo hi : Nat), v = f A n c ∧ B ≤ lo ∧ Ow E k w lo hi A n c zs, fun v w w' ⟨A, n, c, lo, hi, e, h1, h⟩ hb => ⟨A, n, c, lo, hi, e, h1, h.below hb⟩⟩
/-- An empty row of the call's own, without room. -/
def ownE (E : TypeId) (k : IntKind) (B : Nat) : reg.Stay reg.Bel :=
  ⟨fun v w => ∃ (q lo hi : Nat), v = .slice (some ⟨q, 0, none⟩) 0 0 ∧ B ≤ lo ∧ Ow E k w lo hi (some ⟨q, 0, none⟩) 0 0 [], fun v w w' ⟨q, lo, hi, e, h1, h⟩ hb => ⟨q, lo, hi, e, h1, h.below hb⟩⟩
theorem list_pushU {P : Program} {α : Type} {S : ux.Rep α} {T : TypeId} {w : World} {ops : Array Oper} {rest : List Oper} {o : Oper} {a : Act} {Q : Exit → Act → World → Prop} (hg : o.guard = none) (s x : Operand) (t : TypeId)
    (hop : o.op = .call { callee := .builtin .append, args := #[s, x], argTypes := #[t, t] })
    {i : TypeInfo} {z : Value} (h1 : P.underlying t = some (.slice T)) (h2 : P.info? T = some i) (h3 : i.zero = some z) (h4 : i.size = S.n) (h5 : i.bytes ≤ 128) (h6 : z.cells.size = S.n)
    {hi n cap q c : Nat} {A : Option Addr} {fp : List Nat} {xs : List α} (hs : a.eval s = .slice A n cap) (hx : a.eval x = .slice (some ⟨q, 0, none⟩) 1 c) (h : OO (row T S) w 0 hi fp (.slice A n cap) xs) {u : Value} {f : List Nat} (y : α) {lo2 hi2 : Nat} (hu : OO S w lo2 hi2 f u y) (hl : hi ≤ lo2)
    (hX : Bx T w q u.cells) (hn : n + 1 ≤ 1073741824)
    (hK : ∀ A' cap' w', ux.newU S T hi fp n xs y (.slice A' (n + 1) cap') w' → ux.ApU S T hi fp A n cap xs w w' → wpList P ops Q rest (a.put o.dst (.slice A' (n + 1) cap')) w') : wpList P ops Q (o :: rest) a w :=
  wpList_plain hg fun K hK' => ux.wp_push s x t hop h1 h2 h3 h4 h5 h6 hs hx h y hu hl hX hn fun A' cap' w' g1 g2 => hK' _ _ (hK A' cap' w' g1 g2)
theorem ow_lo {E : TypeId} {k : IntKind} {w : World} {lo hi q n c : Nat} {zs : List Int} (h : Ow E k w lo hi (some ⟨q, 0, none⟩) n c zs) : lo ≤ w.heap.size := by
  have h1 := h.hi_
  rcases h.form with ⟨e, _, _⟩ | ⟨g, cur, _, g1, g2, _⟩
  · cases e
  · omega
theorem not_own {T E : TypeId} {k : IntKind} {w : World} {b lo hi n c : Nat} {A : Option Addr} {cs : Array Value} {zs : List Int} (hX : Bx T w b cs) (h : Ow E k w lo hi A n c zs) (hne : T ≠ E) : b ∉ ux.blks A := fun hm => by
  rcases h.form with ⟨rfl, _, _⟩ | ⟨g, cur, rfl, g1, g2, g3, _⟩
  · cases hm
  · obtain rfl : b = g := by simpa [ux.blks] using hm
    have h9 : w.heap[b]? = some (.cells cs T (0, 0)) := hX
    rw [g3] at h9
    injection h9 with h9
    injection h9 with _ h9 _
    exact hne h9.symm
theorem _root_.Go.Proofs.Ytmmhleobgpgliaa.ux.OO.lower {α : Type} {S : ux.Rep α} {w : World} {lo lo2 hi : Nat} {fp : List Nat} {v : Value} {x : α} (h : OO S w lo hi fp v x) (hl : lo2 ≤ lo) : OO S w lo2 hi fp v x := ⟨h.1, fun b hb => ⟨by have := (h.2.1 b hb).1; omega, (h.2.1 b hb).2⟩, h.2.2⟩
theorem grown_bx {T : TypeId} {w w' : World} {b : Nat} {cs : Array Value} {r : Option Nat} (h : Bx T w b cs) (hg : w.grownBy w' r) (hne : some b ≠ r) : Bx T w' b cs := h.same (hg.block b h.lt hne)
theorem grown_ks {w w' : World} {A : Option Addr} {H : List Nat} (hg : w.grownBy w' (blkOf A)) (hA : ∀ q, blkOf A = some q → q ∈ H) : KS H w w' :=
  ⟨hg.os, hg.tape, hg.output, hg.size, fun k hk hn => hg.block k hk (fun e => hn (hA k e.symm))⟩
set_option maxRecDepth 100000 in
set_option maxHeartbeats 4000000 in
theorem specCp (s : Int) (xs : List Nf) (lo hi : Nat) (A : Option Addr) (n c : Nat) (w : World) (h : RR rowNf w lo hi (.slice A n c) xs) (hn : n ≤ 67108864) (hbd : ∀ x ∈ xs, x.Body.length ≤ 67108864) :
    Calls Try.prog 82 #[.agg #[.int .i64 s, .slice A n c]] w (RoPost ⟨s, xs⟩ w) := by
  have RW := Lib.hid h
  obtain ⟨hlR, hncR, hcmR⟩ := nf_len h
  have HL := Lib.hid hlR
  have LHR := Lib.hid (show hi ≤ w.heap.size from h.hi_)
  clear hlR h
  have HN := Lib.hid hn
  have HBD := Lib.hid hbd
  clear hn hbd
  obtain ⟨i0, hi0, hz0, hz1, hz2⟩ := info_parts infoNF
  have HZ := Lib.hid (And.intro hi0 (And.intro hz0 (And.intro hz1 hz2)))
  clear hi0 hz0 hz1 hz2
  obtain ⟨j0, hj0, hy0, hy1, hy2⟩ := info_parts u8Info
  have HY8 := Lib.hid (And.intro hj0 (And.intro hy0 (And.intro hy1 hy2)))
  clear hj0 hy0 hy1 hy2
  go_enter Try.func82, Try.ntmps82
  go_upto_region 1 with fail
  obtain ⟨w0, hW⟩ : ∃ w0, (w.alloc (.cells #[.int .i64 s, .slice A n c] 31)).alloc (.cells #[.int .i64 0, .slice none 0 0] 31) = w0 := ⟨_, rfl⟩
  rw [hW]
  have B0 := Lib.hid (show Below w.heap.size w w0 by rw [← hW]; exact ((Below.refl _ _).alloc (by simp <;> omega) _).alloc (by simp <;> omega) _)
  have X0 := Lib.hid (show Bx 31 w0 (w.heap.size) #[.int .i64 s, .slice A n c] by
      rw [← hW]
      have hh := Bx.made 31 w #[.int .i64 s, .slice A n c]
      exact (hh.below (below_box _ _)))
  have Z0 := Lib.hid (show Bx 31 w0 (w.heap.size + 1) #[.int .i64 0, .slice none 0 0] by
      rw [← hW]
      have hh : Bx 31 ((w.alloc (.cells #[.int .i64 s, .slice A n c] 31)).alloc (.cells #[.int .i64 0, .slice none 0 0] 31)) (w.heap.size + 1) #[.int .i64 0, .slice none 0 0] := by have hh := Bx.made 31 (w.alloc (.cells #[.int .i64 s, .slice A n c] 31)) #[.int .i64 0, .slice none 0 0]; simpa using hh
      exact hh)
  have R0 := Lib.hid (show RR rowNf w0 lo hi (.slice A n c) xs by rw [← hW]; exact ((RW.out.below (below_box _ _)).below (below_box _ _)))
  clear hW
  have LTX := Lib.hid X0.out.lt
  have LTZ := Lib.hid Z0.out.lt
  have cX0 : w0.cell? ⟨w.heap.size, 0, none⟩ = some (.int .i64 s) := X0.out.cell 0
  obtain ⟨b1, hbb⟩ : ∃ b, w0.heap.size = b := ⟨_, rfl⟩
  go_upto_region 2 with fail
  generalize hW : w0.alloc (.cells #[.int .i64 s, .slice none 0 0] 31) = w1
  have LK := Lib.hid (show w.heap.size ≤ b1 ∧ w.heap.size < b1 ∧ w.heap.size + 1 < b1 ∧ hi ≤ b1 by have h1 := B0.out.size; have h2X := X0.out.lt; have h2Z := Z0.out.lt; have h2R := R0.out.hi_; have h3 := hbb; omega)
  have K1 := Lib.hid (show Bx 31 w1 b1 #[.int .i64 s, .slice none 0 0] by rw [← hW, ← hbb]; exact Bx.made _ _ _)
  have hb : Below w0.heap.size w0 w1 := by rw [← hW]; exact below_box _ _
  (try rw [hbb])
  clear hW hbb
  have SS1 := Lib.hid hb.size
  have B1 := Lib.hid (B0.out.trans (hb.mono B0.out.size))
  have X1 := Lib.hid (X0.out.below hb)
  have Z1 := Lib.hid (Z0.out.below hb)
  have R1 := Lib.hid (R0.out.below hb)
  clear hb B0 X0 Z0 R0
  have LWK := Lib.hid K1.out.lt
  clear cX0
  have HBK := Lib.hid (show w.heap.size + 1 < b1 by have h1 := LK.out; omega)
  go_wp2_with fail
  have HLK := Lib.hid K1.out.lt
  go_loopw [4] (fun v0 wr => ∃ (k : Nat) (A1 : Option Addr) (c1 : Nat) (f : List Nat), v0 = .int .i64 ((k : Int)) ∧ (k ≤ n) ∧ Below w.heap.size w wr ∧ Bx 31 wr w.heap.size #[.int .i64 s, .slice A n c] ∧ Bx 31 wr (w.heap.size + 1) #[.int .i64 0, .slice none 0 0] ∧ Bx 31 wr b1 #[.int .i64 s, .slice A1 k c1] ∧ RR rowNf wr lo hi (.slice A n c) xs ∧ OO rowNf wr (b1 + 1) wr.heap.size f (.slice A1 k c1) (xs.take k)) (fun i _ => n - (intOf i).toNat)
  case atStart => exact ⟨0, none, 0, [], rfl, by omega, B1.out, X1.out, Z1.out, K1.out, R1.out, (by rw [List.take_zero]; exact ux.row_nil 85 nf _ (Nat.le_refl _))⟩
  case round =>
    obtain ⟨k, A1, c1, f, rfl, ghk, gB2, gX2, gZ2, gK2, gR2, gO2⟩ := hrel
    have B2 := Lib.hid gB2
    have X2 := Lib.hid gX2
    have Z2 := Lib.hid gZ2
    have K2 := Lib.hid gK2
    have R2 := Lib.hid gR2
    have O2 := Lib.hid gO2
    have hk := Lib.hid ghk
    clear gB2 gX2 gZ2 gK2 gR2 gO2 ghk
    have LUX2 := Lib.hid X2.out.lt
    have LUZ2 := Lib.hid Z2.out.lt
    have LUK2 := Lib.hid K2.out.lt
    have SBR2 := Lib.hid B2.out.size
    have hk9 := hk.out
    have hkN := HN.out
    by_cases hlt : k < n
    · have hlt2 : (k : Int) < n := by omega
      obtain ⟨g, off, x, u, hA, hy, hg1, hg2, hru, hxu⟩ := ux.row_at (R2.out : RR (row 85 nf) _ _ _ _ _) hlt
      obtain ⟨A0, n0, c0_, rfl, hb0⟩ := ux.nf_r hxu
      subst hA
      have k0 : wr.cell? ⟨g, off + k * 2, none⟩ = some (.int .i64 x.Seq) := hru 0 _ rfl
      have k1 : wr.cell? ⟨g, off + k * 2 + 1, none⟩ = some (.slice A0 n0 c0_) := hru 1 _ rfl
      have HY := Lib.hid hy
      have HN0 := Lib.hid (ux.rd_of hb0).len
      have hn0 := (ux.rd_of hb0).cap_
      have F2 := Lib.hid hb0
      have HG := Lib.hid (show g < w.heap.size by have h7 := LHR.out; omega)
      clear hy hru hxu hb0 hg1 hg2
      have HBX := Lib.hid (show n0 ≤ 67108864 by have h1 := HBD.out x (List.mem_of_getElem? HY.out); have h2 := HN0.out; omega)
      have HKB0 := Lib.hid ((B2.out.cell (show ((⟨g, off + k * 2, none⟩ : Addr)).block < w.heap.size from HG.out)).symm.trans k0)
      have HKB1 := Lib.hid ((B2.out.cell (show ((⟨g, off + k * 2 + 1, none⟩ : Addr)).block < w.heap.size from HG.out)).symm.trans k1)
      clear k0 k1
      have cX1 : wr.cell? ⟨w.heap.size, 1, none⟩ = some (.slice (some ⟨g, off, none⟩) n c) := X2.out.cell 1
      go_upto_region 5 with fail
      clear cX1
      have HBR := Lib.hid (show 0 < wr.heap.size by have := K2.out.lt; omega)
      refine reg.region_tail reg.Bel 16 38 [some [], some [(0, 16)], some [], some [(1, 17), (2, 18)], some [(3, 19)], some [(4, 20)], some [], some [], some [(7, 23)], some [], some [(8, 24), (9, 25)], some [(10, 26)], some [(11, 27)], some [(6, 22), (12, 28)], some [(5, 21), (13, 29)], some [], none] [(0, 16), (1, 17), (2, 18), (3, 19), (4, 20), (5, 21), (6, 22), (7, 23), (8, 24), (9, 25), (10, 26), (11, 27), (12, 28), (13, 29), (14, 30), (15, 5)]
        (fun w' => Below w.heap.size w w' ∧ Bx 31 w' (w.heap.size) #[.int .i64 s, .slice (some ⟨g, off, none⟩) n c] ∧ Bx 31 w' (w.heap.size + 1) #[.int .i64 0, .slice none 0 0] ∧ Bx 31 w' (b1) #[.int .i64 s, .slice A1 k c1] ∧ RR rowNf w' lo hi (.slice (some ⟨g, off, none⟩) n c) xs ∧ OO rowNf w' (b1 + 1) wr.heap.size f (.slice A1 k c1) (xs.take k) ∧ RR ux.bytes w' lo hi (.slice A0 n0 c0_) x.Body ∧ True)
        (reg.rl [reg.is (.pointer (some ⟨w.heap.size, 1, none⟩)), reg.is (.slice (some ⟨g, off, none⟩) n c), reg.is (.int .i64 ((k : Int))), reg.is (.pointer (some ⟨g, off + k * 2, none⟩)), reg.is (.pointer (some ⟨g, off + k * 2, none⟩)), reg.is (.int .i64 x.Seq), ownE 5 .u8 (wr.heap.size), reg.is (.pointer (some ⟨w.heap.size, 1, none⟩)), reg.is (.slice (some ⟨g, off, none⟩) n c), reg.is (.int .i64 ((k : Int))), reg.is (.pointer (some ⟨g, off + k * 2, none⟩)), reg.is (.pointer (some ⟨g, off + k * 2 + 1, none⟩)), reg.is (.slice A0 n0 c0_), ownf 5 .u8 (wr.heap.size) x.Body (fun A n c => .slice A n c), ownf 5 .u8 (wr.heap.size) x.Body (fun A n c => .agg #[.int .i64 x.Seq, .slice A n c]), stw.mk 85 (wr.heap.size - 1) #[.int .i64 0, .slice none 0 0], reg.free])
        (by kernel_rfl) rfl (by kernel_rfl) (by kernel_rfl) rfl
        (fun w1 w2 hc hb => ⟨hc.1.trans (hb.mono hc.1.size), hc.2.1.below hb, hc.2.2.1.below hb, hc.2.2.2.1.below hb, hc.2.2.2.2.1.below hb, hc.2.2.2.2.2.1.below hb, hc.2.2.2.2.2.2.1.below hb, trivial⟩) (reg.rl_keep _) (⟨own.below_drew B2.out, X2.out.same rfl, Z2.out.same rfl, K2.out.same rfl, R2.out.same (Nat.le_refl _) (fun _ _ _ => rfl), O2.out.same (Nat.le_refl _) (fun _ _ _ => rfl), F2.out.same (Nat.le_refl _) (fun _ _ _ => rfl), trivial⟩) (by kernel_rfl) ⟨?_, ?_, ?_, ?_, ?_, ?_, ?_, ?_, ?_, ?_, ?_, ?_, ?_, ?_, ?_, ?_, trivial⟩ ?_
      · refine fun w8 hc  K hK => ?_
        (try simp only [Act.put, List.setIfInBounds_toArray, List.set_cons_zero, List.set_cons_succ])
        go_simp
        exact hK (.pointer (some ⟨w.heap.size, 1, none⟩)) _ rfl (Below.refl _ _)
      · refine fun w8 hc v0 h0 K hK => ?_
        obtain rfl : v0 = .pointer (some ⟨w.heap.size, 1, none⟩) := h0
        (try simp only [Act.put, List.setIfInBounds_toArray, List.set_cons_zero, List.set_cons_succ])
        have c0 : w8.cell? ⟨w.heap.size, 1, none⟩ = some (.slice (some ⟨g, off, none⟩) n c) := hc.2.1.cell 1
        go_simp
        exact hK (.slice (some ⟨g, off, none⟩) n c) _ rfl (Below.refl _ _)
      · refine fun w8 hc  K hK => ?_
        (try simp only [Act.put, List.setIfInBounds_toArray, List.set_cons_zero, List.set_cons_succ])
        go_simp
        exact hK (.int .i64 ((k : Int))) _ rfl (Below.refl _ _)
      · refine fun w8 hc v1 h1 v2 h2 K hK => ?_
        obtain rfl : v1 = .slice (some ⟨g, off, none⟩) n c := h1
        obtain rfl : v2 = .int .i64 ((k : Int)) := h2
        (try simp only [Act.put, List.setIfInBounds_toArray, List.set_cons_zero, List.set_cons_succ])
        go_simp
        exact hK (.pointer (some ⟨g, off + k * 2, none⟩)) _ rfl (Below.refl _ _)
      · refine fun w8 hc v3 h3 K hK => ?_
        obtain rfl : v3 = .pointer (some ⟨g, off + k * 2, none⟩) := h3
        (try simp only [Act.put, List.setIfInBounds_toArray, List.set_cons_zero, List.set_cons_succ])
        go_simp
        exact hK (.pointer (some ⟨g, off + k * 2, none⟩)) _ rfl (Below.refl _ _)
      · refine fun w8 hc v4 h4 K hK => ?_
        obtain rfl : v4 = .pointer (some ⟨g, off + k * 2, none⟩) := h4
        (try simp only [Act.put, List.setIfInBounds_toArray, List.set_cons_zero, List.set_cons_succ])
        have c0 : w8.cell? ⟨g, off + k * 2, none⟩ = some (.int .i64 x.Seq) := (hc.1.cell (show ((⟨g, off + k * 2, none⟩ : Addr)).block < w.heap.size from HG.out)).trans HKB0.out
        go_simp
        exact hK (.int .i64 x.Seq) _ rfl (Below.refl _ _)
      · refine fun w8 hc  K hK => ?_
        (try simp only [Act.put, List.setIfInBounds_toArray, List.set_cons_zero, List.set_cons_succ])
        have hql : wr.heap.size ≤ w8.heap.size := hc.2.2.2.2.2.1.2.2
        go_simp
        exact hK (.slice (some ⟨w8.heap.size, 0, none⟩) 0 0) _ ⟨_, _, _, rfl, (by omega), (Ow.empty _ _ _)⟩ (below_box _ _)
      · refine fun w8 hc  K hK => ?_
        (try simp only [Act.put, List.setIfInBounds_toArray, List.set_cons_zero, List.set_cons_succ])
        go_simp
        exact hK (.pointer (some ⟨w.heap.size, 1, none⟩)) _ rfl (Below.refl _ _)
      · refine fun w8 hc v7 h7 K hK => ?_
        obtain rfl : v7 = .pointer (some ⟨w.heap.size, 1, none⟩) := h7
        (try simp only [Act.put, List.setIfInBounds_toArray, List.set_cons_zero, List.set_cons_succ])
        have c0 : w8.cell? ⟨w.heap.size, 1, none⟩ = some (.slice (some ⟨g, off, none⟩) n c) := hc.2.1.cell 1
        go_simp
        exact hK (.slice (some ⟨g, off, none⟩) n c) _ rfl (Below.refl _ _)
      · refine fun w8 hc  K hK => ?_
        (try simp only [Act.put, List.setIfInBounds_toArray, List.set_cons_zero, List.set_cons_succ])
        go_simp
        exact hK (.int .i64 ((k : Int))) _ rfl (Below.refl _ _)
      · refine fun w8 hc v8 h8 v9 h9 K hK => ?_
        obtain rfl : v8 = .slice (some ⟨g, off, none⟩) n c := h8
        obtain rfl : v9 = .int .i64 ((k : Int)) := h9
        (try simp only [Act.put, List.setIfInBounds_toArray, List.set_cons_zero, List.set_cons_succ])
        go_simp
        exact hK (.pointer (some ⟨g, off + k * 2, none⟩)) _ rfl (Below.refl _ _)
      · refine fun w8 hc v10 h10 K hK => ?_
        obtain rfl : v10 = .pointer (some ⟨g, off + k * 2, none⟩) := h10
        (try simp only [Act.put, List.setIfInBounds_toArray, List.set_cons_zero, List.set_cons_succ])
        go_simp
        exact hK (.pointer (some ⟨g, off + k * 2 + 1, none⟩)) _ rfl (Below.refl _ _)
      · refine fun w8 hc v11 h11 K hK => ?_
        obtain rfl : v11 = .pointer (some ⟨g, off + k * 2 + 1, none⟩) := h11
        (try simp only [Act.put, List.setIfInBounds_toArray, List.set_cons_zero, List.set_cons_succ])
        have c0 : w8.cell? ⟨g, off + k * 2 + 1, none⟩ = some (.slice A0 n0 c0_) := (hc.1.cell (show ((⟨g, off + k * 2 + 1, none⟩ : Addr)).block < w.heap.size from HG.out)).trans HKB1.out
        go_simp
        exact hK (.slice A0 n0 c0_) _ rfl (Below.refl _ _)
      · refine fun w8 hc v6 h6 v12 h12 K hK => ?_
        obtain ⟨q0, lo0, hi0, rfl, hB0, hO0⟩ := h6
        obtain rfl : v12 = .slice A0 n0 c0_ := h12
        (try simp only [Act.put, List.setIfInBounds_toArray, List.set_cons_zero, List.set_cons_succ])
        have hql : wr.heap.size ≤ w8.heap.size := hc.2.2.2.2.2.1.2.2
        have hol := hO0.hi_
        rw [if_pos (by rfl)]
        refine wp_app0 _ _ 22 rfl 5 _ _ .u8 Try.underlying22 HY8.out.1 HY8.out.2.1 HY8.out.2.2.1 (by rw [HY8.out.2.2.2]; omega) rfl rfl rfl hO0 (ux.rd_of hc.2.2.2.2.2.2.1) HBX.out (by have hh := ow_lo hO0; omega) ?_
        intro A4 c4 w4 ho4 hb4
        exact hK _ _ ⟨A4, _, c4, _, _, rfl, hB0, ho4⟩ hb4
      · refine fun w8 hc v5 h5 v13 h13 K hK => ?_
        obtain rfl : v5 = .int .i64 x.Seq := h5
        obtain ⟨A1_, n1_, c1_, lo1, hi1, rfl, hB1, hO1⟩ := h13
        (try simp only [Act.put, List.setIfInBounds_toArray, List.set_cons_zero, List.set_cons_succ])
        go_simp
        exact hK _ _ ⟨A1_, n1_, c1_, _, _, rfl, hB1, hO1⟩ (Below.refl _ _)
      · refine fun w8 hc  K hK => ?_
        (try simp only [Act.put, List.setIfInBounds_toArray, List.set_cons_zero, List.set_cons_succ])
        rw [if_pos (by rfl)]
        have hql : wr.heap.size ≤ w8.heap.size := hc.2.2.2.2.2.1.2.2
        have hq0 := HBR.out
        go_simp
        exact hK (.pointer (some ⟨w8.heap.size, 0, none⟩)) _ ⟨w8.heap.size, rfl, (by omega), Bx.made _ _ _⟩ (below_box _ _)
      refine fun wg3 hc v0 h0 v1 h1 v2 h2 v3 h3 v4 h4 v5 h5 v6 h6 v7 h7 v8 h8 v9 h9 v10 h10 v11 h11 v12 h12 v13 h13 v14 h14 v15 h15 => ?_
      obtain rfl : v0 = .pointer (some ⟨w.heap.size, 1, none⟩) := h0
      obtain rfl : v1 = .slice (some ⟨g, off, none⟩) n c := h1
      obtain rfl : v2 = .int .i64 ((k : Int)) := h2
      obtain rfl : v3 = .pointer (some ⟨g, off + k * 2, none⟩) := h3
      obtain rfl : v4 = .pointer (some ⟨g, off + k * 2, none⟩) := h4
      obtain rfl : v5 = .int .i64 x.Seq := h5
      obtain ⟨q0, lo0, hi0, rfl, hB0, hO0⟩ := h6
      obtain rfl : v7 = .pointer (some ⟨w.heap.size, 1, none⟩) := h7
      obtain rfl : v8 = .slice (some ⟨g, off, none⟩) n c := h8
      obtain rfl : v9 = .int .i64 ((k : Int)) := h9
      obtain rfl : v10 = .pointer (some ⟨g, off + k * 2, none⟩) := h10
      obtain rfl : v11 = .pointer (some ⟨g, off + k * 2 + 1, none⟩) := h11
      obtain rfl : v12 = .slice A0 n0 c0_ := h12
      obtain ⟨A1_, n1_, c1_, lo1, hi1, rfl, hB1, hO1⟩ := h13
      obtain ⟨A2_, n2_, c2_, lo2, hi2, rfl, hB2, hO2⟩ := h14
      obtain ⟨qV, rfl, hqV, hPV⟩ : ∃ q, v15 = .pointer (some ⟨q, 0, none⟩) ∧ wr.heap.size - 1 < q ∧ Bx 85 wg3 q #[.int .i64 0, .slice none 0 0] := h15
      (try simp only [reg.Obs])
      (try simp only [Act.put, List.setIfInBounds_toArray, List.set_cons_zero, List.set_cons_succ])
      simp only [List.drop_succ_cons, List.drop_zero]
      have B3 := Lib.hid hc.1
      have X3 := Lib.hid hc.2.1
      have Z3 := Lib.hid hc.2.2.1
      have K3 := Lib.hid hc.2.2.2.1
      have R3 := Lib.hid hc.2.2.2.2.1
      have O3 := Lib.hid hc.2.2.2.2.2.1
      have F3 := Lib.hid hc.2.2.2.2.2.2.1
      clear hc B2 X2 Z2 K2 R2 O2 F2
      have LV := Lib.hid (show wr.heap.size ≤ qV by have := HBR.out; omega)
      have V3 := Lib.hid hPV
      have HOB := Lib.hid hO2
      have HB2 := Lib.hid hB2
      have HNQ := Lib.hid (not_own hPV hO2 (by decide))
      (try clear hO0 hB0)
      (try clear hO1 hB1)
      clear hO2 hB2 hqV hPV
      refine stw.list_store rfl 85 _ _ rfl (qV) #[.int .i64 x.Seq, .slice A2_ n2_ c2_] rfl rfl 85 _ V3.out rfl ux.szNf (ux.oneNf _ _ _ _) ?_
      intro wz4 hz
      have HOB2 := Lib.hid (show Ow 5 .u8 wz4 lo2 hi2 A2_ n2_ c2_ x.Body from ux.ow_as HOB.out hz.below.size fun b9 hb9 => hz.other b9 (fun e9 => HNQ.out (by rw [← e9]; exact hb9)))
      (try simp only [Act.put])
      have B4 := Lib.hid (hz.on B3.out (by have hlK := LK.out; have hlV := LV.out; have hs0 := LTX.out; have hs1 := LTZ.out; have hs2 := LHR.out; have hs3 := SS1.out; have hs4 := LWK.out; have hs5 := HBK.out; have hs6 := LUX2.out; have hs7 := LUZ2.out; have hs8 := LUK2.out; have hs9 := SBR2.out; first | omega | (simp <;> omega)))
      have X4 := Lib.hid (hz.keep X3.out (by have hlK := LK.out; have hlV := LV.out; have hs0 := LTX.out; have hs1 := LTZ.out; have hs2 := LHR.out; have hs3 := SS1.out; have hs4 := LWK.out; have hs5 := HBK.out; have hs6 := LUX2.out; have hs7 := LUZ2.out; have hs8 := LUK2.out; have hs9 := SBR2.out; first | omega | (simp <;> omega)))
      have Z4 := Lib.hid (hz.keep Z3.out (by have hlK := LK.out; have hlV := LV.out; have hs0 := LTX.out; have hs1 := LTZ.out; have hs2 := LHR.out; have hs3 := SS1.out; have hs4 := LWK.out; have hs5 := HBK.out; have hs6 := LUX2.out; have hs7 := LUZ2.out; have hs8 := LUK2.out; have hs9 := SBR2.out; first | omega | (simp <;> omega)))
      have K4 := Lib.hid (hz.keep K3.out (by have hlK := LK.out; have hlV := LV.out; have hs0 := LTX.out; have hs1 := LTZ.out; have hs2 := LHR.out; have hs3 := SS1.out; have hs4 := LWK.out; have hs5 := HBK.out; have hs6 := LUX2.out; have hs7 := LUZ2.out; have hs8 := LUK2.out; have hs9 := SBR2.out; first | omega | (simp <;> omega)))
      have V4 := Lib.hid (hz.box)
      have R4 := Lib.hid (R3.out.same hz.below.size fun b h1 h2 => hz.other b (by have hlK := LK.out; have hlV := LV.out; have hs0 := LTX.out; have hs1 := LTZ.out; have hs2 := LHR.out; have hs3 := SS1.out; have hs4 := LWK.out; have hs5 := HBK.out; have hs6 := LUX2.out; have hs7 := LUZ2.out; have hs8 := LUK2.out; have hs9 := SBR2.out; first | omega | (simp <;> omega)))
      have O4 := Lib.hid (O3.out.same hz.below.size fun b h1 h2 => hz.other b (by have hlK := LK.out; have hlV := LV.out; have hs0 := LTX.out; have hs1 := LTZ.out; have hs2 := LHR.out; have hs3 := SS1.out; have hs4 := LWK.out; have hs5 := HBK.out; have hs6 := LUX2.out; have hs7 := LUZ2.out; have hs8 := LUK2.out; have hs9 := SBR2.out; first | omega | (simp <;> omega)))
      have F4 := Lib.hid (F3.out.same hz.below.size fun b h1 h2 => hz.other b (by have hlK := LK.out; have hlV := LV.out; have hs0 := LTX.out; have hs1 := LTZ.out; have hs2 := LHR.out; have hs3 := SS1.out; have hs4 := LWK.out; have hs5 := HBK.out; have hs6 := LUX2.out; have hs7 := LUZ2.out; have hs8 := LUK2.out; have hs9 := SBR2.out; first | omega | (simp <;> omega)))
      clear hz B3 X3 Z3 K3 V3 R3 O3 F3
      have HOE := Lib.hid (show OO nf wz4 wr.heap.size wz4.heap.size (ux.blks A2_) (ux.nfV x (.slice A2_ n2_ c2_)) x from oo_narrow ((ux.nf_mk (x := x) (ux.num_of HOB2.out) (by cases A2_ <;> simp [ux.blks])).wide (Nat.zero_le _)) (fun b9 h9 => by have h8 := ux.ow_in HOB2.out b9 h9; have h7 := HB2.out; omega))
      have HO0 := Lib.hid (show OO (row 85 nf) wz4 0 wr.heap.size f (.slice A1 k c1) (xs.take k) from O4.out.lower (Nat.zero_le _))
      have cK1 : wz4.cell? ⟨b1, 1, none⟩ = some (.slice A1 k c1) := K4.out.cell 1
      have cV0 : wz4.cell? ⟨qV, 0, none⟩ = some (.int .i64 x.Seq) := V4.out.cell 0
      have cV1 : wz4.cell? ⟨qV, 1, none⟩ = some (.slice A2_ n2_ c2_) := V4.out.cell 1
      have hbx := bx.below_box wz4 (.cells #[.int .i64 x.Seq, .slice A2_ n2_ c2_] 85)
      go_wp2_with (first | (refine stw.list_load rfl 85 _ rfl qV rfl 85 _ V4.out Try.underlying85 rfl ux.szNf ?_) | (at_builtin; refine list_pushU rfl _ _ 29 rfl Try.underlying29 HZ.out.1 HZ.out.2.1 HZ.out.2.2.1 (by rw [HZ.out.2.2.2]; omega) rfl rfl rfl (HO0.out.below hbx) x (HOE.out.below hbx) (Nat.le_refl _) (Bx.made _ _ _) (by omega) ?_; intro A3 c3 w9 hn9 ha9; have HN9 := Lib.hid hn9; have HA9 := Lib.hid ha9; have K9 := Lib.hid (show Bx 31 w9 b1 #[.int .i64 s, .slice A1 k c1] from grown_bx (K4.out.below hbx) ha9.2.1 (fun e9 => by have h9 := (ux.row_blk ha9.1 e9.symm).2.2; have h8 := (O4.out.inn _ h9).1; omega)); have cK9 := K9.out.cell 1; have fK9 := K9.out.free 1; clear hn9 ha9))
      clear cK9 fK9 cK1 cV0 cV1
      have HKS := Lib.hid (show KS f wz4 w9 from (ux.ks_below hbx _).trans (grown_ks HA9.out.2.1 (fun q hq => (ux.row_blk HA9.out.1 hq).2.2)))
      have HFI := Lib.hid (show ∀ q, q ∈ f → b1 + 1 ≤ q ∧ q < wr.heap.size from O4.out.inn)
      have X9 := Lib.hid (ux.bx_ks X4.out HKS.out (fun hm => by have := HFI.out _ hm; have hlK := LK.out; have hlV := LV.out; have hs0 := LTX.out; have hs1 := LTZ.out; have hs2 := LHR.out; have hs3 := SS1.out; have hs4 := LWK.out; have hs5 := HBK.out; have hs6 := LUX2.out; have hs7 := LUZ2.out; have hs8 := LUK2.out; have hs9 := SBR2.out; omega))
      have Z9 := Lib.hid (ux.bx_ks Z4.out HKS.out (fun hm => by have := HFI.out _ hm; have hlK := LK.out; have hlV := LV.out; have hs0 := LTX.out; have hs1 := LTZ.out; have hs2 := LHR.out; have hs3 := SS1.out; have hs4 := LWK.out; have hs5 := HBK.out; have hs6 := LUX2.out; have hs7 := LUZ2.out; have hs8 := LUK2.out; have hs9 := SBR2.out; omega))
      have R9 := Lib.hid (R4.out.ks HKS.out (fun b h1 h2 h3 => by have := HFI.out _ h3; have hlK := LK.out; have hlV := LV.out; have hs0 := LTX.out; have hs1 := LTZ.out; have hs2 := LHR.out; have hs3 := SS1.out; have hs4 := LWK.out; have hs5 := HBK.out; have hs6 := LUX2.out; have hs7 := LUZ2.out; have hs8 := LUK2.out; have hs9 := SBR2.out; omega))
      have B9 := Lib.hid (B4.out.trans (ux.ks_bel HKS.out (fun q hm => by have := HFI.out _ hm; have hlK := LK.out; have hlV := LV.out; have hs0 := LTX.out; have hs1 := LTZ.out; have hs2 := LHR.out; have hs3 := SS1.out; have hs4 := LWK.out; have hs5 := HBK.out; have hs6 := LUX2.out; have hs7 := LUZ2.out; have hs8 := LUK2.out; have hs9 := SBR2.out; omega) B4.out.size))
      obtain ⟨A4, c4, f4, hi4, e4, hO4, hf4⟩ := HN9.out
      obtain ⟨rfl, rfl⟩ : A3 = A4 ∧ c3 = c4 := by injection e4 with e1 _ e2; exact ⟨e1, e2⟩
      have HF4 := Lib.hid hf4
      have O9 := Lib.hid (show OO rowNf w9 (b1 + 1) w9.heap.size f4 (.slice A3 (k + 1) c3) (xs.take k ++ [x]) from oo_narrow (hO4.wide (Nat.zero_le _)) (fun b9 h9 => by rcases hf4 b9 h9 with h8 | h8; exact (HFI.out b9 h8).1; have hlK := LK.out; have hlV := LV.out; have hs0 := LTX.out; have hs1 := LTZ.out; have hs2 := LHR.out; have hs3 := SS1.out; have hs4 := LWK.out; have hs5 := HBK.out; have hs6 := LUX2.out; have hs7 := LUZ2.out; have hs8 := LUK2.out; have hs9 := SBR2.out; omega))
      clear e4 hO4 hf4 hbx
      obtain ⟨w10, hW⟩ : ∃ wy, (w9.setCell ⟨b1, 1, none⟩ (.slice A3 (k + 1) c3)) = wy := ⟨_, rfl⟩
      rw [hW]
      have HK10 := Lib.hid (show KS [b1] w9 w10 by rw [← hW]; exact ux.ks_set (List.mem_singleton.2 rfl) 1 _)
      have K10 := Lib.hid (show Bx 31 w10 b1 #[.int .i64 s, .slice A3 (k + 1) c3] by rw [← hW]; exact K9.out.set 1 _)
      clear hW
      have HNM := Lib.hid (show ∀ q, q ∈ [b1] → q = b1 from fun q hq => List.mem_singleton.1 hq)
      have X10 := Lib.hid (ux.bx_ks X9.out HK10.out (fun hm => by have := HNM.out _ hm; have hlK := LK.out; have hlV := LV.out; have hs0 := LTX.out; have hs1 := LTZ.out; have hs2 := LHR.out; have hs3 := SS1.out; have hs4 := LWK.out; have hs5 := HBK.out; have hs6 := LUX2.out; have hs7 := LUZ2.out; have hs8 := LUK2.out; have hs9 := SBR2.out; omega))
      have Z10 := Lib.hid (ux.bx_ks Z9.out HK10.out (fun hm => by have := HNM.out _ hm; have hlK := LK.out; have hlV := LV.out; have hs0 := LTX.out; have hs1 := LTZ.out; have hs2 := LHR.out; have hs3 := SS1.out; have hs4 := LWK.out; have hs5 := HBK.out; have hs6 := LUX2.out; have hs7 := LUZ2.out; have hs8 := LUK2.out; have hs9 := SBR2.out; omega))
      have R10 := Lib.hid (R9.out.ks HK10.out (fun b h1 h2 h3 => by have := HNM.out _ h3; have hlK := LK.out; have hlV := LV.out; have hs0 := LTX.out; have hs1 := LTZ.out; have hs2 := LHR.out; have hs3 := SS1.out; have hs4 := LWK.out; have hs5 := HBK.out; have hs6 := LUX2.out; have hs7 := LUZ2.out; have hs8 := LUK2.out; have hs9 := SBR2.out; omega))
      have B10 := Lib.hid (B9.out.trans (ux.ks_bel HK10.out (fun q hm => by have := HNM.out _ hm; have hlK := LK.out; have hlV := LV.out; have hs0 := LTX.out; have hs1 := LTZ.out; have hs2 := LHR.out; have hs3 := SS1.out; have hs4 := LWK.out; have hs5 := HBK.out; have hs6 := LUX2.out; have hs7 := LUZ2.out; have hs8 := LUK2.out; have hs9 := SBR2.out; omega) B9.out.size))
      have O10 := Lib.hid (O9.out.ks HK10.out (fun q h1 h2 => by have := HNM.out _ h2; have := (O9.out.inn q h1).1; omega))
      have HT := Lib.hid (ux.take_snoc HY.out)
      go_wp2_with fail
      go_roundw
      case rel => exact ⟨k + 1, A3, c3, f4, by go_num, by omega, B10.out, X10.out, Z10.out, K10.out, R10.out, (by rw [HT.out]; exact O10.out.wide (Nat.le_refl _))⟩
      case measure => simp [intOf]; omega
    · have hlt2 : ¬ (k : Int) < n := by omega
      obtain rfl : n = k := by omega
      have HF := Lib.hid (show xs.take n = xs from List.take_of_length_le (by rw [HL.out]; exact Nat.le_refl _))
      have cX1 : wr.cell? ⟨w.heap.size, 1, none⟩ = some (.slice A n c) := X2.out.cell 1
      go_wp2_with (first | (refine stw.list_load rfl 31 _ rfl (b1) rfl 31 _ K2.out Try.underlying31 rfl ux.szRob ?_) | (refine stw.list_store rfl 31 _ _ rfl (w.heap.size + 1) #[.int .i64 s, .slice A1 n c1] rfl rfl 31 _ Z2.out rfl ux.szRob (ux.oneRob _ _ _ _) ?_; intro wz3 hz))
      clear cX1
      have B3 := Lib.hid (hz.on B2.out (by have hlK := LK.out; have hs0 := LTX.out; have hs1 := LTZ.out; have hs2 := LHR.out; have hs3 := SS1.out; have hs4 := LWK.out; have hs5 := HBK.out; have hs6 := LUX2.out; have hs7 := LUZ2.out; have hs8 := LUK2.out; have hs9 := SBR2.out; first | omega | (simp <;> omega)))
      have X3 := Lib.hid (hz.keep X2.out (by have hlK := LK.out; have hs0 := LTX.out; have hs1 := LTZ.out; have hs2 := LHR.out; have hs3 := SS1.out; have hs4 := LWK.out; have hs5 := HBK.out; have hs6 := LUX2.out; have hs7 := LUZ2.out; have hs8 := LUK2.out; have hs9 := SBR2.out; first | omega | (simp <;> omega)))
      have Z3 := Lib.hid (hz.box)
      have K3 := Lib.hid (hz.keep K2.out (by have hlK := LK.out; have hs0 := LTX.out; have hs1 := LTZ.out; have hs2 := LHR.out; have hs3 := SS1.out; have hs4 := LWK.out; have hs5 := HBK.out; have hs6 := LUX2.out; have hs7 := LUZ2.out; have hs8 := LUK2.out; have hs9 := SBR2.out; first | omega | (simp <;> omega)))
      have R3 := Lib.hid (R2.out.same hz.below.size fun b h1 h2 => hz.other b (by have hlK := LK.out; have hs0 := LTX.out; have hs1 := LTZ.out; have hs2 := LHR.out; have hs3 := SS1.out; have hs4 := LWK.out; have hs5 := HBK.out; have hs6 := LUX2.out; have hs7 := LUZ2.out; have hs8 := LUK2.out; have hs9 := SBR2.out; first | omega | (simp <;> omega)))
      have O3 := Lib.hid (O2.out.same hz.below.size fun b h1 h2 => hz.other b (by have hlK := LK.out; have hs0 := LTX.out; have hs1 := LTZ.out; have hs2 := LHR.out; have hs3 := SS1.out; have hs4 := LWK.out; have hs5 := HBK.out; have hs6 := LUX2.out; have hs7 := LUZ2.out; have hs8 := LUK2.out; have hs9 := SBR2.out; first | omega | (simp <;> omega)))
      clear hz B2 X2 Z2 K2 R2 O2
      (try simp only [Exit.inBlock, Exit.then])
      refine bodyPost_ret (v := .agg #[.int .i64 s, .slice A1 n c1]) ?_ rfl ?_
      · rw [results_cell1 rfl]
        exact stw.back Z3.out Try.underlying31 rfl ux.szRob
      · exact ⟨_, _, _, _, rfl, by rw [← HF.out]; exact O3.out.wide (by have hlK := LK.out; have hs0 := LTX.out; have hs1 := LTZ.out; have hs2 := LHR.out; have hs3 := SS1.out; have hs4 := LWK.out; have hs5 := HBK.out; have hs6 := LUX2.out; have hs7 := LUZ2.out; have hs8 := LUK2.out; have hs9 := SBR2.out; omega), B3.out⟩
end Go.Proofs.Ytmmhleobgpgliaa.ro
end
