/- DecodeHeader of the specification. Condition: none. -/
import Derived.Test.YtdelpepepbkjmaaPh3
namespace Go.Proofs.Ytdelpepepbkjmaa.phs
open Go.RowKit sl harn rng phm

set_option maxRecDepth 100000 in
set_option maxHeartbeats 4000000 in
theorem specDec (zs : List Int) (lo hi : Nat) (A : Option Addr) (n cap : Nat) (w : World) (h : Rd .i64 w lo hi A n cap zs) :
    Calls Try.prog 24 #[.slice A n cap] w (DPost (dh zs) w) := by
  obtain ⟨i0, hi0, hz0, hz1, hz2⟩ := info_parts intInfo
  have HI0 := Lib.hid (And.intro hi0 (And.intro hz0 (And.intro hz1 hz2)))
  have hb := h.cap_
  have HL := Lib.hid h.len
  have HR := Lib.hid h
  clear h hi0 hz0 hz1 hz2
  by_cases h54 : n = 54
  · subst h54
    obtain ⟨r, hr⟩ : ∃ r, fr (maj zs) = r := ⟨_, rfl⟩
    obtain ⟨l, hl⟩ : ∃ l, fl (maj zs) = l := ⟨_, rfl⟩
    obtain ⟨s, hs⟩ : ∃ s, fs (maj zs) = s := ⟨_, rfl⟩
    have E1 := Lib.hid (show bm.bti (((maj zs).drop 0).take 2) = r by rw [bti_r, hr])
    have E2 := Lib.hid (show bm.bti (((maj zs).drop 2).take 8) = l by rw [bti_l, hl])
    have E3 := Lib.hid (show bm.bti (((maj zs).drop 10).take 7) = s by rw [bti_s, hs])
    have HRS := Lib.hid (And.intro hr (And.intro hl hs))
    clear hr hl hs
    go_enter Try.func24, Try.ntmps24
    go_wp2_with fail
    generalize hW0 : (w.alloc (.cells #[.int .i64 0, .int .i64 0, .int .i64 0] 25)).alloc (.cells #[] 3) = w0
    have X0 := Lib.hid (show Box w0 w.heap.size 0 0 0 by rw [← hW0]; exact (Box.made w 0 0 0).below (below_box _ _))
    have B0 := Lib.hid (show Below w.heap.size w w0 by rw [← hW0]; exact below_box2 _ _ _)
    have S0 := Lib.hid (show w.heap.size + 1 ≤ w0.heap.size by rw [← hW0]; simp)
    have O0 := Lib.hid (show Ow 3 .i64 w0 (w.heap.size + 1) w0.heap.size (some ⟨w.heap.size + 1, 0, none⟩) 0 0 ((maj zs).take 0) by
      rw [← hW0]
      have := Ow.empty 3 .i64 (w.alloc (.cells #[.int .i64 0, .int .i64 0, .int .i64 0] 25))
      simpa using this)
    clear hW0
    go_loopw [4, 5] (fun v i wr => ∃ (k : Nat) (B : Option Addr) (c : Nat), v = .slice B k c ∧ i = .int .i64 k ∧ k ≤ 18 ∧ Ow 3 .i64 wr (w.heap.size + 1) wr.heap.size B k c ((maj zs).take k) ∧ Below (w.heap.size + 1) w0 wr) (fun _ i _ => 18 - (intOf i).toNat)
    case atStart => exact ⟨0, _, _, rfl, rfl, by omega, O0.out, Below.refl _ _⟩
    case round =>
      clear O0
      obtain ⟨w1, rfl⟩ : ∃ w1, w1 = wr := ⟨wr, rfl⟩
      obtain ⟨k, B, c, rfl, rfl, hk, ho, hbl⟩ := hrel
      have O1 := Lib.hid ho
      have BL := Lib.hid hbl
      have B1 := Lib.hid (B0.out.trans (hbl.mono (Nat.le_succ _)))
      have S1 := Lib.hid (show w.heap.size + 1 ≤ w1.heap.size by have := hbl.size; have := S0.out; omega)
      clear ho hbl
      by_cases hlt : k < 18
      · obtain ⟨b, off, rfl, h1, h2, hc⟩ := (HR.out.below B1.out).at_ (i := k) (by omega)
        obtain ⟨b', off', e, _, _, hc'⟩ := (HR.out.below B1.out).at_ (i := k + 18) (by omega)
        injection e with e; injection e with e1 e2 e3
        subst e1 e2
        obtain ⟨b', off', e, _, _, hc''⟩ := (HR.out.below B1.out).at_ (i := k + 36) (by omega)
        injection e with e; injection e with e1 e2 e3
        subst e1 e2
        obtain ⟨x, hx⟩ : ∃ x, zs.getD k 0 = x := ⟨_, rfl⟩
        obtain ⟨y, hy⟩ : ∃ y, zs.getD (k + 18) 0 = y := ⟨_, rfl⟩
        obtain ⟨z, hz⟩ : ∃ z, zs.getD (k + 36) 0 = z := ⟨_, rfl⟩
        rw [hx] at hc
        rw [hy] at hc'
        rw [hz] at hc''
        obtain ⟨v, hv⟩ : ∃ v, bm.wt [x, y, z] = v := ⟨_, rfl⟩
        have HX := Lib.hid (own.wf_at HR.out.wf HL.out (k := k) (by omega) hx)
        have HY := Lib.hid (own.wf_at HR.out.wf HL.out (k := k + 18) (by omega) hy)
        have HZ := Lib.hid (own.wf_at HR.out.wf HL.out (k := k + 36) (by omega) hz)
        have HV := Lib.hid hv
        have HM := Lib.hid (show MjCase zs k v from ⟨fun h => mj_yes hx hy hz hv h, fun h => mj_no hx hy hz hv h⟩)
        obtain ⟨p, hp⟩ : ∃ p : Nat, k + 18 = p := ⟨_, rfl⟩
        obtain ⟨q, hq⟩ : ∃ q : Nat, k + 36 = q := ⟨_, rfl⟩
        rw [hp] at hc'
        rw [hq] at hc''
        have a1 : (k : Int) + 18 = p := by omega
        have a2 : (k : Int) + 36 = q := by omega
        have a3 : IntKind.i64.wrap (p : Int) = p := IntWalk.i64_in _ (by omega)
        have a4 : IntKind.i64.wrap (q : Int) = q := IntWalk.i64_in _ (by omega)
        have a5 : (p : Int) < 54 := by omega
        have a6 : (q : Int) < 54 := by omega
        have a7 : (k : Int) < 18 := by omega
        have a8 : (k : Int) < 54 := by omega
        have R2 := Lib.hid (Rd.three .i64 3 w1.drew x y z HX.out HY.out HZ.out)
        have ne1 := World.new_ne w1 ⟨b, off + k, none⟩ hc
        have ne2 := World.new_ne w1 ⟨b, off + p, none⟩ hc'
        have ne3 := World.new_ne w1 ⟨b, off + q, none⟩ hc''
        clear hx hy hz hv e3 hp hq h1 h2
        go_wp2_with fail
        go_region_held3 (fun w' => w'.cell? ⟨b, off + k, none⟩ = some (.int .i64 x) ∧ w'.cell? ⟨b, off + p, none⟩ = some (.int .i64 y) ∧ w'.cell? ⟨b, off + q, none⟩ = some (.int .i64 z)) (first | exact ⟨hc, hc', hc''⟩ | go_keep)
          (first
          | (go_at_call 49; refine (bits.specWt [x, y, z] _ _ (some ⟨w1.drew.heap.size, 0, none⟩) 3 3 _ R2.out).mono ?_; rw [HV.out]; rintro e w' ⟨rfl, rfl⟩))
        have O2 := Lib.hid (own.ow_drew (O1.out.alloc (.cells #[.int .i64 x, .int .i64 y, .int .i64 z] 3)))
        have BL2 := Lib.hid (own.below_drew (BL.out.alloc S1.out (.cells #[.int .i64 x, .int .i64 y, .int .i64 z] 3)))
        have S2 := Lib.hid (show w.heap.size + 1 ≤ (w1.alloc (.cells #[.int .i64 x, .int .i64 y, .int .i64 z] 3)).drew.heap.size by have := S1.out; simp; omega)
        generalize hW : (w1.alloc (.cells #[.int .i64 x, .int .i64 y, .int .i64 z] 3)).drew = w2
        rw [hW] at O2 BL2 S2
        clear hW hc hc' hc'' a1 a2 a3 a4 a5 a6 a8 ne1 ne2 ne3 e3 R2
        by_cases h2 : 2 ≤ v
        · have HN := Lib.hid (maj_next zs hlt (HM.out.yes h2))
          go_wp2_with (at_builtin; refine wpList_app _ rfl _ _ 27 rfl 3 i0 _ .i64 Try.underlying27 HI0.out.1 HI0.out.2.1 HI0.out.2.2.1 (by rw [HI0.out.2.2.2]; omega) rfl rfl rfl (O2.out.alloc _) (Rd.one .i64 3 w2 1 (WalkArith.wf_i64 (by omega))) (by omega) (by have := S2.out; simp; omega) ?_; intro A3 c3 w3 ho3 hb3; have O3 := Lib.hid ho3; have BL3 := Lib.hid ((BL2.out.alloc S2.out _).trans hb3); clear ho3 hb3)
          go_roundw
          case rel => exact ⟨k + 1, _, _, rfl, by go_num, by omega, by rw [HN.out]; exact O3.out, BL3.out⟩
          case measure => simp [intOf]; omega
        · have HN := Lib.hid (maj_next zs hlt (HM.out.no h2))
          go_wp2_with (at_builtin; refine wpList_app _ rfl _ _ 27 rfl 3 i0 _ .i64 Try.underlying27 HI0.out.1 HI0.out.2.1 HI0.out.2.2.1 (by rw [HI0.out.2.2.2]; omega) rfl rfl rfl (O2.out.alloc _) (Rd.one .i64 3 w2 0 (WalkArith.wf_i64 (by omega))) (by omega) (by have := S2.out; simp; omega) ?_; intro A3 c3 w3 ho3 hb3; have O3 := Lib.hid ho3; have BL3 := Lib.hid ((BL2.out.alloc S2.out _).trans hb3); clear ho3 hb3)
          go_roundw
          case rel => exact ⟨k + 1, _, _, rfl, by go_num, by omega, by rw [HN.out]; exact O3.out, BL3.out⟩
          case measure => simp [intOf]; omega
      · have hlt2 : ¬ (k : Int) < 18 := by omega
        obtain rfl : k = 18 := by omega
        have hcc := O1.out.rd.cap_
        obtain ⟨b, rfl, _⟩ := own.own_some O1.out (by omega)
        have OB := Lib.hid (show Ow 3 .i64 w1 (w.heap.size + 1) w1.heap.size (some ⟨b, 0, none⟩) 18 c (maj zs) by have := O1.out; rwa [List.take_of_length_le (by rw [maj_len]; omega)] at this)
        have X1 := Lib.hid (X0.out.up BL.out (by omega))
        have C1 := Lib.hid (own.rd_drew (OB.out.rd.cut 0 2 c (some ⟨b, 0, none⟩) (fun _ => by simp [Addr.add]) (by omega) (by omega) (by omega) (by unfold maxLen; omega)))
        have C2 := Lib.hid (own.rd_drew (OB.out.rd.cut 2 10 (c - 2) (some ⟨b, 2, none⟩) (fun _ => by simp [Addr.add]) (by omega) (by omega) (by omega) (by unfold maxLen; omega)))
        have C3 := Lib.hid (own.rd_drew (OB.out.rd.cut 10 17 (c - 10) (some ⟨b, 10, none⟩) (fun _ => by simp [Addr.add]) (by omega) (by omega) (by omega) (by unfold maxLen; omega)))
        have XD := Lib.hid (show Box w1.drew w.heap.size 0 0 0 from X1.out)
        have XA := Lib.hid (fun (o : Obj) => XD.out.below (below_box w1.drew o))
        have sl1 : ∀ W, (Instr.slice 27 (.slice (some ⟨b, 0, none⟩) 18 c) none (some (.int .i64 2)) none).run Try.prog W = .ok (.slice (some ⟨b, 0, none⟩) 2 c) W := fun W => slice_low (P := Try.prog) 27 3 i0 Try.underlying27 HI0.out.1 b 18 c 2 (by omega) W
        have sl2 : ∀ W, (Instr.slice 27 (.slice (some ⟨b, 0, none⟩) 18 c) (some (.int .i64 2)) (some (.int .i64 10)) none).run Try.prog W = .ok (.slice (some ⟨b, 2, none⟩) 8 (c - 2)) W := fun W => slice_mid (P := Try.prog) 27 3 i0 Try.underlying27 HI0.out.1 HI0.out.2.2.1 b 18 c 2 10 (by omega) (by omega) (by omega) W
        have sl3 : ∀ W, (Instr.slice 27 (.slice (some ⟨b, 0, none⟩) 18 c) (some (.int .i64 10)) (some (.int .i64 17)) none).run Try.prog W = .ok (.slice (some ⟨b, 10, none⟩) 7 (c - 10)) W := fun W => slice_mid (P := Try.prog) 27 3 i0 Try.underlying27 HI0.out.1 HI0.out.2.2.1 b 18 c 10 17 (by omega) (by omega) (by omega) W
        clear O1 BL S1
        go_wp2_with fail
        go_region_held3 (fun w' => Box w' w.heap.size 0 0 0) (first | exact XD.out | exact XA.out _ | exact (XA.out _).same (Below.heap_setCell _ _ _ _ (by have := X1.out.lt; simp; omega)))
          (first
          | (have g9 := m2; clear g9; go_at_call 50; refine (bits.specBti (((maj zs).drop 10).take 7) (w.heap.size + 1) w1.heap.size (some ⟨b, 10, none⟩) 7 (c - 10) _ (by first | exact C3.out | exact C3.out.alloc _)).mono ?_; rw [E3.out]; rintro e w' ⟨rfl, rfl⟩)
          | (have g9 := m1; clear g9; go_at_call 50; refine (bits.specBti (((maj zs).drop 2).take 8) (w.heap.size + 1) w1.heap.size (some ⟨b, 2, none⟩) 8 (c - 2) _ (by first | exact C2.out | exact C2.out.alloc _)).mono ?_; rw [E2.out]; rintro e w' ⟨rfl, rfl⟩; have m2 := B1)
          | (go_at_call 50; refine (bits.specBti (((maj zs).drop 0).take 2) (w.heap.size + 1) w1.heap.size (some ⟨b, 0, none⟩) 2 c _ (by first | exact C1.out | exact C1.out.alloc _)).mono ?_; rw [E1.out]; rintro e w' ⟨rfl, rfl⟩; have m1 := B1))
        all_goals
         (clear C1 C2 C3 XD XA m1 m2 sl1 sl2 sl3
          have X2 := Lib.hid (show Box (w1.alloc (.cells #[.int .i64 r, .int .i64 l, .int .i64 s] 25)).drew w.heap.size 0 0 0 from (show Box (w1.alloc _) w.heap.size 0 0 0 from X1.out.below (below_box w1 _)))
          have Y2 := Lib.hid (show Box (w1.alloc (.cells #[.int .i64 r, .int .i64 l, .int .i64 s] 25)).drew w1.heap.size r l s from Box.made w1 r l s)
          have O2 := Lib.hid (own.ow_drew (OB.out.alloc (.cells #[.int .i64 r, .int .i64 l, .int .i64 s] 25)))
          have B2 := Lib.hid (own.below_drew (B1.out.alloc B1.out.size (.cells #[.int .i64 r, .int .i64 l, .int .i64 s] 25)))
          generalize hW2 : (w1.alloc (.cells #[.int .i64 r, .int .i64 l, .int .i64 s] 25)).drew = w2
          rw [hW2] at X2 Y2 O2 B2
          clear hW2 OB X1 B1
          have y0 := Y2.out.c0
          have y1 := Y2.out.c1
          have y2 := Y2.out.c2
          obtain ⟨p, hp⟩ : ∃ p, bits.par (maj zs) = p := ⟨_, rfl⟩
          have HP := Lib.hid hp
          clear hp
          by_cases hp0 : p = 0
          · subst hp0
            by_cases hv : Hv r l s
            · have HVV := Lib.hid (hv_yes hv)
              have HD := Lib.hid (show dh zs = ((r, l, s), true) by
                obtain ⟨e1, e2, e3⟩ := HRS.out
                have := dh_yes (zs := zs) ⟨HL.out, HP.out, by rw [e1, e2, e3]; exact hv⟩
                rw [e1, e2, e3] at this; exact this)
              clear hv
              go_wp2_with fail
              (with_reducible refine (bits.specPar (maj zs) _ _ (some ⟨b, 0, none⟩) 18 c _ O2.out.rd).mono ?_)
              rw [HP.out]
              rintro e w3 ⟨rfl, rfl⟩
              go_wp2_with fail
              (with_reducible refine (specHv r l s _).mono ?_)
              rw [HVV.out]
              rintro e w3 ⟨rfl, hb3⟩
              have X3 := Lib.hid (X2.out.below hb3)
              have Y3 := Lib.hid (Y2.out.below hb3)
              have B3 := Lib.hid (B2.out.trans (hb3.mono B2.out.size))
              clear hb3 y0 y1 y2
              have y0 := Y3.out.c0
              have y1 := Y3.out.c1
              have y2 := Y3.out.c2
              have z0 := X3.out.c0
              have z1 := X3.out.c1
              have z2 := X3.out.c2
              have f0 := X3.out.free 0
              have f1 := X3.out.free 1
              have f2 := X3.out.free 2
              go_wp2_with fail
              (try simp only [Exit.inBlock, Exit.then])
              refine bodyPost_ret (v := .tuple #[.agg #[.int .i64 r, .int .i64 l, .int .i64 s], .bool true]) ?_ rfl (d_make HD.out ?_)
              · rw [results_cell_tmp1 rfl]
                go_simp
              · exact (((B3.out.setCell (p := ⟨w.heap.size, 0, none⟩) (Nat.le_refl _) _).setCell (p := ⟨w.heap.size, 1, none⟩) (Nat.le_refl _) _).setCell (p := ⟨w.heap.size, 2, none⟩) (Nat.le_refl _) _)
            · have HVV := Lib.hid (hv_no hv)
              have HD := Lib.hid (show dh zs = ((0, 0, 0), false) by
                obtain ⟨e1, e2, e3⟩ := HRS.out
                exact dh_no fun g => hv (by have := g.2.2; rw [e1, e2, e3] at this; exact this))
              clear hv
              go_wp2_with fail
              (with_reducible refine (bits.specPar (maj zs) _ _ (some ⟨b, 0, none⟩) 18 c _ O2.out.rd).mono ?_)
              rw [HP.out]
              rintro e w3 ⟨rfl, rfl⟩
              go_wp2_with fail
              (with_reducible refine (specHv r l s _).mono ?_)
              rw [HVV.out]
              rintro e w3 ⟨rfl, hb3⟩
              have X3 := Lib.hid (X2.out.below hb3)
              have B3 := Lib.hid (B2.out.trans (hb3.mono B2.out.size))
              clear hb3 y0 y1 y2
              have z0 := X3.out.c0
              have z1 := X3.out.c1
              have z2 := X3.out.c2
              have f0 := X3.out.free 0
              have f1 := X3.out.free 1
              have f2 := X3.out.free 2
              go_wp2_with fail
              (try simp only [Exit.inBlock, Exit.then])
              refine bodyPost_ret (v := .tuple #[.agg #[.int .i64 0, .int .i64 0, .int .i64 0], .bool false]) ?_ rfl (d_make HD.out ?_)
              · rw [results_cell_tmp1 rfl]
                go_simp
              · exact (((B3.out.setCell (p := ⟨w.heap.size, 0, none⟩) (Nat.le_refl _) _).setCell (p := ⟨w.heap.size, 1, none⟩) (Nat.le_refl _) _).setCell (p := ⟨w.heap.size, 2, none⟩) (Nat.le_refl _) _)
          · have HD := Lib.hid (show dh zs = ((0, 0, 0), false) from dh_no fun g => hp0 (by rw [← HP.out]; exact g.2.1))
            have hp1 : (p == 0) = false := by simpa using hp0
            have z0 := X2.out.c0
            have z1 := X2.out.c1
            have z2 := X2.out.c2
            have f0 := X2.out.free 0
            have f1 := X2.out.free 1
            have f2 := X2.out.free 2
            go_wp2_with fail
            (with_reducible refine (bits.specPar (maj zs) _ _ (some ⟨b, 0, none⟩) 18 c _ O2.out.rd).mono ?_)
            rw [HP.out]
            rintro e w3 ⟨rfl, rfl⟩
            go_wp2_with fail
            (try simp only [Exit.inBlock, Exit.then])
            refine bodyPost_ret (v := .tuple #[.agg #[.int .i64 0, .int .i64 0, .int .i64 0], .bool false]) ?_ rfl (d_make HD.out ?_)
            · rw [results_cell_tmp1 rfl]
              go_simp
            · exact (((B2.out.setCell (p := ⟨w.heap.size, 0, none⟩) (Nat.le_refl _) _).setCell (p := ⟨w.heap.size, 1, none⟩) (Nat.le_refl _) _).setCell (p := ⟨w.heap.size, 2, none⟩) (Nat.le_refl _) _))
  · have HD := Lib.hid (dh_no (zs := zs) (fun g => h54 (by rw [← HL.out]; exact g.1)))
    have hn : ((n : Int) == 54) = false := by
      have : ¬ (n : Int) = 54 := by omega
      simpa using this
    clear h54
    go_enter Try.func24, Try.ntmps24
    go_wp2_with fail
    (try simp only [Exit.inBlock, Exit.then])
    refine bodyPost_ret (v := .tuple #[.agg #[.int .i64 0, .int .i64 0, .int .i64 0], .bool false]) ?_ rfl (d_make HD.out ?_)
    · rw [results_cell_tmp1 rfl]
      go_simp
    · (repeat' (first | exact Below.refl _ _ | refine Below.setCell ?_ (by simp) _ | refine Below.alloc ?_ (by simp <;> omega) _))
end Go.Proofs.Ytdelpepepbkjmaa.phs
