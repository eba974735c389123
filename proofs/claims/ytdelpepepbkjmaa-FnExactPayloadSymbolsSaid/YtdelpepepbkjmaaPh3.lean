/- The majority of three copies and DecodeHeader, program and specification. Condition: none. -/
import Derived.Test.YtdelpepepbkjmaaPh2
import Derived.Test.YtdelpepepbkjmaaBits2
namespace Go.Proofs.Ytdelpepepbkjmaa.phs
open Go.RowKit sl harn rng phm

theorem results_cell_tmp1 {fn : Func} {p u : Tmp} {ty : TypeId} (h : fn.results = #[.cell p ty, .tmp u]) (tmps : Array Value) (P : Program) (w : World) :
    (results fn tmps).run P w =
      ((asAddr (tmps.getD p undef)).run P w).andThen fun a w₁ => ((loadVar ty a).run P w₁).andThen fun v w₂ => .ok (.tuple #[v, tmps.getD u undef]) w₂ := by
  simp only [results, h]
  simp [Sem.run_bind, Result.andThen]
theorem Rd.three (k : IntKind) (E : TypeId) (w : World) (x y z : Int) (hx : (Lit.int k x).wf = true) (hy : (Lit.int k y).wf = true) (hz : (Lit.int k z).wf = true) : Rd k (w.alloc (.cells #[.int k x, .int k y, .int k z] E)) w.heap.size (w.heap.size + 1) (some ⟨w.heap.size, 0, none⟩) 3 3 [x, y, z] :=
  ⟨rfl, by omega, by unfold maxLen; omega, by simp, fun v hv => by
    rcases List.mem_cons.1 hv with rfl | hv
    · exact hx
    · rcases List.mem_cons.1 hv with rfl | hv
      · exact hy
      · have : v = z := by simpa using hv
        rw [this]; exact hz, fun _ => ⟨_, 0, rfl, Nat.le_refl _, by omega, fun i hi => by
    have : i = 0 ∨ i = 1 ∨ i = 2 := by omega
    rcases this with rfl | rfl | rfl <;> simp⟩⟩
/-- The majority, as far as k. -/
def mk (zs : List Int) (k : Nat) : List Int := (maj zs).take k ++ List.replicate (18 - k) 0
theorem mk_len (zs : List Int) {k : Nat} (h : k ≤ 18) : (mk zs k).length = 18 := by simp [mk, maj_len]; omega
theorem mk_zero (zs : List Int) : mk zs 0 = List.replicate 18 0 := by simp [mk]
theorem mk_all (zs : List Int) : mk zs 18 = maj zs := by simp [mk, List.take_of_length_le, maj_len]
theorem mk_wf (zs : List Int) (k : Nat) : Wf .i64 (mk zs k) := (Wf.take (Wf.of_i64 fun z hz => by have := maj_bit zs z hz; omega) k).append (Wf.of_i64 fun z hz => by have := List.eq_of_mem_replicate hz; omega)
theorem mk_at (zs : List Int) {k j : Nat} (hj : j < 18) (hk : k ≤ 18) : (mk zs k).getD j 0 = if j < k then mj zs j else 0 := by
  unfold mk
  rw [List.getD_eq_getElem?_getD]
  by_cases h : j < k
  · rw [if_pos h, List.getElem?_append_left (by rw [List.length_take, maj_len]; omega), List.getElem?_take, if_pos h, ← List.getD_eq_getElem?_getD, maj_at zs hj]
  · rw [if_neg h, List.getElem?_append_right (by rw [List.length_take, maj_len]; omega), List.length_take, maj_len, List.getElem?_replicate]
    split <;> rfl
theorem mk_set (zs : List Int) {k : Nat} (hk : k < 18) {v : Int} (hv : mj zs k = v) : (mk zs k).set k v = mk zs (k + 1) := by
  refine list_eq (n := 18) (by rw [List.length_set, mk_len zs (by omega)]) (mk_len zs (by omega)) fun i hi => ?_
  rw [getD_set _ _ _ _ (by rw [mk_len zs (by omega)]; exact hi), mk_at zs hi (by omega), mk_at zs hi (by omega)]
  by_cases h : k = i
  · subst h; rw [if_pos rfl, if_pos (by omega), hv]
  · rw [if_neg h]
    by_cases h2 : i < k
    · rw [if_pos h2, if_pos (by omega)]
    · rw [if_neg h2, if_neg (by omega)]
theorem mk_skip (zs : List Int) {k : Nat} (hk : k < 18) (hv : mj zs k = 0) : mk zs k = mk zs (k + 1) := by
  refine list_eq (n := 18) (mk_len zs (by omega)) (mk_len zs (by omega)) fun i hi => ?_
  rw [mk_at zs hi (by omega), mk_at zs hi (by omega)]
  by_cases h : i = k
  · subst h; rw [if_neg (by omega), if_pos (by omega), hv]
  · by_cases h2 : i < k
    · rw [if_pos h2, if_pos (by omega)]
    · rw [if_neg h2, if_neg (by omega)]
theorem mj_yes {zs : List Int} {k : Nat} {x y z v : Int} (hx : zs.getD k 0 = x) (hy : zs.getD (k + 18) 0 = y) (hz : zs.getD (k + 36) 0 = z) (hv : bm.wt [x, y, z] = v) (h : 2 ≤ v) : mj zs k = 1 := by
  unfold mj; rw [hx, hy, hz, hv, if_pos h]
theorem mj_no {zs : List Int} {k : Nat} {x y z v : Int} (hx : zs.getD k 0 = x) (hy : zs.getD (k + 18) 0 = y) (hz : zs.getD (k + 36) 0 = z) (hv : bm.wt [x, y, z] = v) (h : ¬ 2 ≤ v) : mj zs k = 0 := by
  unfold mj; rw [hx, hy, hz, hv, if_neg h]
structure MjCase (zs : List Int) (k : Nat) (v : Int) : Prop where
  yes : 2 ≤ v → mj zs k = 1
  no : ¬ 2 ≤ v → mj zs k = 0
/-- A row of exactly eighteen cells. -/
def MajPost (w : World) (zs : List Int) (e : Ending) (w' : World) : Prop :=
  ∃ b, e = .returned (.slice (some ⟨b, 0, none⟩) 18 18) ∧ Ow 3 .i64 w' w.heap.size w'.heap.size (some ⟨b, 0, none⟩) 18 18 zs ∧ Below w.heap.size w w'
set_option maxRecDepth 100000 in
set_option maxHeartbeats 4000000 in
theorem implMaj (zs : List Int) (lo hi : Nat) (A : Option Addr) (cap : Nat) (w : World) (h : Rd .i64 w lo hi A 54 cap zs) :
    Calls Try.prog 45 #[.slice A 54 cap] w (MajPost w (maj zs)) := by
  obtain ⟨i0, hi0, hz0, hz1, hz2⟩ := info_parts intInfo
  have hmk : ∀ W : World, (Instr.makeSlice 27 (.int .i64 18) (.int .i64 18)).run Try.prog W = .ok (.slice (some ⟨W.heap.size, 0, none⟩) 18 18) (W.alloc (.cells (madeCells #[.int .i64 0] 18) 3)) := fun W => run_make1 (P := Try.prog) 27 3 i0 _ Try.underlying27 hi0 hz0 hz1 18 (by omega) (by omega) W
  have HR := Lib.hid h
  have HL := Lib.hid h.len
  have O0 := Lib.hid (show Ow 3 .i64 (w.alloc (.cells (madeCells #[.int .i64 0] 18) 3)) w.heap.size (w.alloc (.cells (madeCells #[.int .i64 0] 18) 3)).heap.size (some ⟨w.heap.size, 0, none⟩) 18 18 (mk zs 0) from
    Rw.own (L := mk zs 0) (by rw [mk_zero]; unfold Rw; rw [madeN 18]; exact heap_alloc_new w _) (mk_wf zs 0) (Nat.le_refl _) (mk_len zs (by omega)) (by unfold maxLen; omega))
  have B0 := Lib.hid (below_box w (.cells (madeCells #[.int .i64 0] 18) 3))
  clear h hi0 hz0 hz1 hz2
  go_enter Try.func45, Try.ntmps45
  go_wp2_with fail
  clear hmk
  go_loopw [9] (fun i wr => ∃ k : Nat, i = .int .i64 k ∧ k ≤ 18 ∧ Ow 3 .i64 wr w.heap.size (w.heap.size + 1) (some ⟨w.heap.size, 0, none⟩) 18 18 (mk zs k) ∧ Below w.heap.size w wr) (fun i _ => 18 - (intOf i).toNat)
  case atStart => exact ⟨0, rfl, by omega, by have := O0.out; simpa using this, B0.out⟩
  case round =>
    clear O0 B0
    obtain ⟨w1, rfl⟩ : ∃ w1, w1 = wr := ⟨wr, rfl⟩
    obtain ⟨k, rfl, hk, ho, hb⟩ := hrel
    have O1 := Lib.hid ho
    have B1 := Lib.hid hb
    clear ho hb
    by_cases hlt : k < 18
    · obtain ⟨b, off, rfl, h1, h2, hc⟩ := (HR.out.below B1.out).at_ (i := k) (by omega)
      obtain ⟨b', off', e, _, _, hc'⟩ := (HR.out.below B1.out).at_ (i := k + 18) (by omega)
      injection e with e; injection e with e1 e2 e3
      subst e1 e2
      obtain ⟨b', off', e, _, _, hc''⟩ := (HR.out.below B1.out).at_ (i := k + 36) (by omega)
      injection e with e; injection e with e1 e2 e3
      subst e1 e2
      obtain ⟨x, hx⟩ : ∃ x, zs.getD k 0 = x := ⟨_, rfl⟩
      obtain ⟨y, hy⟩ : ∃ y, zs.getD (k + 18) 0 = y := ⟨_, rfl⟩
      obtain ⟨z, hz⟩ : ∃ z, zs.getD (k + 36) 0 = z := ⟨_, rfl⟩
      rw [hx] at hc
      rw [hy] at hc'
      rw [hz] at hc''
      obtain ⟨v, hv⟩ : ∃ v, bm.wt [x, y, z] = v := ⟨_, rfl⟩
      have HX := Lib.hid (own.wf_at HR.out.wf HL.out (k := k) (by omega) hx)
      have HY := Lib.hid (own.wf_at HR.out.wf HL.out (k := k + 18) (by omega) hy)
      have HZ := Lib.hid (own.wf_at HR.out.wf HL.out (k := k + 36) (by omega) hz)
      have HV := Lib.hid hv
      have HM := Lib.hid (show MjCase zs k v from ⟨fun h => mj_yes hx hy hz hv h, fun h => mj_no hx hy hz hv h⟩)
      obtain ⟨p, hp⟩ : ∃ p : Nat, k + 18 = p := ⟨_, rfl⟩
      obtain ⟨q, hq⟩ : ∃ q : Nat, k + 36 = q := ⟨_, rfl⟩
      rw [hp] at hc'
      rw [hq] at hc''
      have a1 : (k : Int) + 18 = p := by omega
      have a2 : (k : Int) + 36 = q := by omega
      have a3 : IntKind.i64.wrap (p : Int) = p := IntWalk.i64_in _ (by omega)
      have a4 : IntKind.i64.wrap (q : Int) = q := IntWalk.i64_in _ (by omega)
      have a5 : (p : Int) < 54 := by omega
      have a6 : (q : Int) < 54 := by omega
      have a7 : (k : Int) < 18 := by omega
      have a8 : (k : Int) < 54 := by omega
      clear hx hy hz hv e3 hp hq h1 h2
      go_wp2_with fail
      go_region
      have R2 := Lib.hid (own.rd_drew (Rd.three .i64 3 w1 x y z HX.out HY.out HZ.out))
      have O2 := Lib.hid (own.ow_drew (O1.out.alloc (.cells #[.int .i64 x, .int .i64 y, .int .i64 z] 3)))
      have B2 := Lib.hid (own.below_drew (B1.out.alloc B1.out.size (.cells #[.int .i64 x, .int .i64 y, .int .i64 z] 3)))
      clear hc hc' hc'' a1 a2 a3 a4 a5 a6 e3
      go_wp2_with fail
      (with_reducible refine (bits.implWt [x, y, z] _ _ _ 3 3 _ R2.out).mono ?_)
      rw [HV.out]
      rintro e w2 ⟨rfl, rfl⟩
      clear R2
      generalize hW : (w1.alloc (.cells #[.int .i64 x, .int .i64 y, .int .i64 z] 3)).drew = w2
      rw [hW] at O2 B2
      clear hW
      by_cases h2 : 2 ≤ v
      · have hcell := own.cell_of O2.out (j := k) (by omega)
        have hfr := O2.out.free rfl k
        have O3 := Lib.hid (own.ow_set O2.out k 1 (WalkArith.wf_i64 (by omega)))
        rw [mk_set zs hlt (HM.out.yes h2)] at O3
        have B3 := Lib.hid (B2.out.setCell (p := ⟨w.heap.size, k, none⟩) (Nat.le_refl _) (.int .i64 1))
        go_wp2_with fail
        go_roundw
        case rel => exact ⟨k + 1, by go_num, by omega, O3.out, B3.out⟩
        case measure => simp [intOf]; omega
      · have O3 := Lib.hid O2.out
        rw [mk_skip zs hlt (HM.out.no h2)] at O3
        go_wp2_with fail
        go_roundw
        case rel => exact ⟨k + 1, by go_num, by omega, O3.out, B2.out⟩
        case measure => simp [intOf]; omega
    · have hlt2 : ¬ (k : Int) < 18 := by omega
      obtain rfl : k = 18 := by omega
      have O2 := O1
      rw [mk_all] at O2
      go_wp2_with fail
      go_ret
      exact ⟨_, rfl, O2.out.up, B1.out⟩
theorem bti_in {L : List Int} {i j : Nat} (h : ∀ z ∈ L, 0 ≤ z ∧ z ≤ 1) (hj : j ≤ 40) : bm.bti ((L.drop i).take j) = bm.num ((L.drop i).take j) :=
  bm.bti_yes ((bm.isb_iff _).2 fun z hz => h z (List.mem_of_mem_drop (List.mem_of_mem_take hz))) (by rw [List.length_take]; omega)
theorem bti_r (zs : List Int) : bm.bti (((maj zs).drop 0).take 2) = fr (maj zs) := bti_in (maj_bit zs) (by omega)
theorem bti_l (zs : List Int) : bm.bti (((maj zs).drop 2).take 8) = fl (maj zs) := bti_in (maj_bit zs) (by omega)
theorem bti_s (zs : List Int) : bm.bti (((maj zs).drop 10).take 7) = fs (maj zs) := bti_in (maj_bit zs) (by omega)
/-- What a decoding hands back. -/
def DPost (t : (Int × Int × Int) × Bool) (w : World) (e : Ending) (w' : World) : Prop :=
  e = .returned (.tuple #[.agg #[.int .i64 t.1.1, .int .i64 t.1.2.1, .int .i64 t.1.2.2], .bool t.2]) ∧ Below w.heap.size w w'
theorem d_parts {t : (Int × Int × Int) × Bool} {a b c : Int} {z : Bool} (ht : t = ((a, b, c), z)) {w w' : World} {e : Ending} (h : DPost t w e w') :
    e = .returned (.tuple #[.agg #[.int .i64 a, .int .i64 b, .int .i64 c], .bool z]) ∧ Below w.heap.size w w' := by
  subst ht; exact h
theorem d_make {t : (Int × Int × Int) × Bool} {a b c : Int} {z : Bool} (ht : t = ((a, b, c), z)) {w w' : World} (h : Below w.heap.size w w') : DPost t w (.returned (.tuple #[.agg #[.int .i64 a, .int .i64 b, .int .i64 c], .bool z])) w' := by
  subst ht; exact ⟨rfl, h⟩
set_option maxRecDepth 100000 in
set_option maxHeartbeats 4000000 in
theorem implDec (zs : List Int) (lo hi : Nat) (A : Option Addr) (n cap : Nat) (w : World) (h : Rd .i64 w lo hi A n cap zs) :
    Calls Try.prog 17 #[.slice A n cap] w (DPost (dh zs) w) := by
  have hb := h.cap_
  have HL := Lib.hid h.len
  have HR := Lib.hid h
  clear h
  by_cases h54 : n = 54
  · subst h54
    obtain ⟨r, hr⟩ : ∃ r, fr (maj zs) = r := ⟨_, rfl⟩
    obtain ⟨l, hl⟩ : ∃ l, fl (maj zs) = l := ⟨_, rfl⟩
    obtain ⟨s, hs⟩ : ∃ s, fs (maj zs) = s := ⟨_, rfl⟩
    have E1 := Lib.hid (show bm.bti (((maj zs).drop 0).take 2) = r by rw [bti_r, hr])
    have E2 := Lib.hid (show bm.bti (((maj zs).drop 2).take 8) = l by rw [bti_l, hl])
    have E3 := Lib.hid (show bm.bti (((maj zs).drop 10).take 7) = s by rw [bti_s, hs])
    have HRS := Lib.hid (And.intro hr (And.intro hl hs))
    clear hr hl hs
    go_enter Try.func17, Try.ntmps17
    go_wp2_with fail
    generalize hW0 : w.alloc (.cells #[.int .i64 0, .int .i64 0, .int .i64 0] 25) = w0
    have X0 := Lib.hid (show Box w0 w.heap.size 0 0 0 by rw [← hW0]; exact Box.made _ _ _ _)
    have B0 := Lib.hid (show Below w.heap.size w w0 by rw [← hW0]; exact below_box _ _)
    have R0 := Lib.hid (HR.out.below B0.out)
    clear hW0
    (with_reducible refine (implMaj zs _ _ A cap _ R0.out).mono ?_)
    rintro e w1 ⟨b, rfl, ho, hb1⟩
    have O1 := Lib.hid ho
    have X1 := Lib.hid (X0.out.below hb1)
    have B1 := Lib.hid (B0.out.trans (hb1.mono B0.out.size))
    have C1 := Lib.hid (own.rd_drew (ho.rd.cut 0 2 18 (some ⟨b, 0, none⟩) (fun _ => by simp [Addr.add]) (by omega) (by omega) (by omega) (by unfold maxLen; omega)))
    have C2 := Lib.hid (own.rd_drew (ho.rd.cut 2 10 16 (some ⟨b, 2, none⟩) (fun _ => by simp [Addr.add]) (by omega) (by omega) (by omega) (by unfold maxLen; omega)))
    have C3 := Lib.hid (own.rd_drew (ho.rd.cut 10 17 8 (some ⟨b, 10, none⟩) (fun _ => by simp [Addr.add]) (by omega) (by omega) (by omega) (by unfold maxLen; omega)))
    clear ho hb1 X0 B0 R0
    go_wp2_with fail
    have XD := Lib.hid (show Box w1.drew w.heap.size 0 0 0 from X1.out)
    have XA := Lib.hid (fun (o : Obj) => XD.out.below (below_box w1.drew o))
    have a1 : IntKind.i64.wrap 17 = 17 := by decide
    go_region_held3 (fun w' => Box w' w.heap.size 0 0 0) (first | exact XD.out | exact XA.out _ | exact (XA.out _).same (Below.heap_setCell _ _ _ _ (by have := X1.out.lt; simp; omega)))
      (first
      | (have g9 := m2; clear g9; go_at_call 46; refine (bits.implBti (((maj zs).drop 10).take 7) w0.heap.size w1.heap.size (some ⟨b, 10, none⟩) 7 8 _ (by first | exact C3.out | exact C3.out.alloc _)).mono ?_; rw [E3.out]; rintro e w' ⟨rfl, rfl⟩)
      | (have g9 := m1; clear g9; go_at_call 46; refine (bits.implBti (((maj zs).drop 2).take 8) w0.heap.size w1.heap.size (some ⟨b, 2, none⟩) 8 16 _ (by first | exact C2.out | exact C2.out.alloc _)).mono ?_; rw [E2.out]; rintro e w' ⟨rfl, rfl⟩; have m2 := B1)
      | (go_at_call 46; refine (bits.implBti (((maj zs).drop 0).take 2) w0.heap.size w1.heap.size (some ⟨b, 0, none⟩) 2 18 _ (by first | exact C1.out | exact C1.out.alloc _)).mono ?_; rw [E1.out]; rintro e w' ⟨rfl, rfl⟩; have m1 := B1))
    all_goals
     (clear C1 C2 C3 XD XA a1 m1 m2
      have X2 := Lib.hid (show Box (w1.alloc (.cells #[.int .i64 r, .int .i64 l, .int .i64 s] 25)).drew w.heap.size 0 0 0 from (show Box (w1.alloc _) w.heap.size 0 0 0 from X1.out.below (below_box w1 _)))
      have Y2 := Lib.hid (show Box (w1.alloc (.cells #[.int .i64 r, .int .i64 l, .int .i64 s] 25)).drew w1.heap.size r l s from Box.made w1 r l s)
      have O2 := Lib.hid (own.ow_drew (O1.out.alloc (.cells #[.int .i64 r, .int .i64 l, .int .i64 s] 25)))
      have B2 := Lib.hid (own.below_drew (B1.out.alloc B1.out.size (.cells #[.int .i64 r, .int .i64 l, .int .i64 s] 25)))
      generalize hW2 : (w1.alloc (.cells #[.int .i64 r, .int .i64 l, .int .i64 s] 25)).drew = w2
      rw [hW2] at X2 Y2 O2 B2
      clear hW2 O1 X1 B1
      have y0 := Y2.out.c0
      have y1 := Y2.out.c1
      have y2 := Y2.out.c2
      obtain ⟨p, hp⟩ : ∃ p, bits.par (maj zs) = p := ⟨_, rfl⟩
      have HP := Lib.hid hp
      clear hp
      by_cases hp0 : p = 0
      · subst hp0
        by_cases hv : Hv r l s
        · have HVV := Lib.hid (hv_yes hv)
          have HD := Lib.hid (show dh zs = ((r, l, s), true) by
            obtain ⟨e1, e2, e3⟩ := HRS.out
            have := dh_yes (zs := zs) ⟨HL.out, HP.out, by rw [e1, e2, e3]; exact hv⟩
            rw [e1, e2, e3] at this; exact this)
          clear hv
          go_wp2_with fail
          (with_reducible refine (bits.implPar (maj zs) _ _ (some ⟨b, 0, none⟩) 18 18 _ O2.out.rd).mono ?_)
          rw [HP.out]
          rintro e w3 ⟨rfl, rfl⟩
          go_wp2_with fail
          (with_reducible refine (implHv r l s _).mono ?_)
          rw [HVV.out]
          rintro e w3 ⟨rfl, hb3⟩
          have X3 := Lib.hid (X2.out.below hb3)
          have Y3 := Lib.hid (Y2.out.below hb3)
          have B3 := Lib.hid (B2.out.trans (hb3.mono B2.out.size))
          clear hb3 y0 y1 y2
          have y0 := Y3.out.c0
          have y1 := Y3.out.c1
          have y2 := Y3.out.c2
          have z0 := X3.out.c0
          have z1 := X3.out.c1
          have z2 := X3.out.c2
          have f0 := X3.out.free 0
          have f1 := X3.out.free 1
          have f2 := X3.out.free 2
          go_wp2_with fail
          (try simp only [Exit.inBlock, Exit.then])
          refine bodyPost_ret (v := .tuple #[.agg #[.int .i64 r, .int .i64 l, .int .i64 s], .bool true]) ?_ rfl (d_make HD.out ?_)
          · rw [results_cell_tmp1 rfl]
            go_simp
          · exact (((B3.out.setCell (p := ⟨w.heap.size, 0, none⟩) (Nat.le_refl _) _).setCell (p := ⟨w.heap.size, 1, none⟩) (Nat.le_refl _) _).setCell (p := ⟨w.heap.size, 2, none⟩) (Nat.le_refl _) _)
        · have HVV := Lib.hid (hv_no hv)
          have HD := Lib.hid (show dh zs = ((0, 0, 0), false) by
            obtain ⟨e1, e2, e3⟩ := HRS.out
            exact dh_no fun g => hv (by have := g.2.2; rw [e1, e2, e3] at this; exact this))
          clear hv
          go_wp2_with fail
          (with_reducible refine (bits.implPar (maj zs) _ _ (some ⟨b, 0, none⟩) 18 18 _ O2.out.rd).mono ?_)
          rw [HP.out]
          rintro e w3 ⟨rfl, rfl⟩
          go_wp2_with fail
          (with_reducible refine (implHv r l s _).mono ?_)
          rw [HVV.out]
          rintro e w3 ⟨rfl, hb3⟩
          have X3 := Lib.hid (X2.out.below hb3)
          have B3 := Lib.hid (B2.out.trans (hb3.mono B2.out.size))
          clear hb3 y0 y1 y2
          have z0 := X3.out.c0
          have z1 := X3.out.c1
          have z2 := X3.out.c2
          have f0 := X3.out.free 0
          have f1 := X3.out.free 1
          have f2 := X3.out.free 2
          go_wp2_with fail
          (try simp only [Exit.inBlock, Exit.then])
          refine bodyPost_ret (v := .tuple #[.agg #[.int .i64 0, .int .i64 0, .int .i64 0], .bool false]) ?_ rfl (d_make HD.out ?_)
          · rw [results_cell_tmp1 rfl]
            go_simp
          · exact (((B3.out.setCell (p := ⟨w.heap.size, 0, none⟩) (Nat.le_refl _) _).setCell (p := ⟨w.heap.size, 1, none⟩) (Nat.le_refl _) _).setCell (p := ⟨w.heap.size, 2, none⟩) (Nat.le_refl _) _)
      · have HD := Lib.hid (show dh zs = ((0, 0, 0), false) from dh_no fun g => hp0 (by rw [← HP.out]; exact g.2.1))
        have hp1 : (p == 0) = false := by simpa using hp0
        have z0 := X2.out.c0
        have z1 := X2.out.c1
        have z2 := X2.out.c2
        have f0 := X2.out.free 0
        have f1 := X2.out.free 1
        have f2 := X2.out.free 2
        go_wp2_with fail
        (with_reducible refine (bits.implPar (maj zs) _ _ (some ⟨b, 0, none⟩) 18 18 _ O2.out.rd).mono ?_)
        rw [HP.out]
        rintro e w3 ⟨rfl, rfl⟩
        go_wp2_with fail
        (try simp only [Exit.inBlock, Exit.then])
        refine bodyPost_ret (v := .tuple #[.agg #[.int .i64 0, .int .i64 0, .int .i64 0], .bool false]) ?_ rfl (d_make HD.out ?_)
        · rw [results_cell_tmp1 rfl]
          go_simp
        · exact (((B2.out.setCell (p := ⟨w.heap.size, 0, none⟩) (Nat.le_refl _) _).setCell (p := ⟨w.heap.size, 1, none⟩) (Nat.le_refl _) _).setCell (p := ⟨w.heap.size, 2, none⟩) (Nat.le_refl _) _))
  · have HD := Lib.hid (dh_no (zs := zs) (fun g => h54 (by rw [← HL.out]; exact g.1)))
    have hn : ((n : Int) == 54) = false := by
      have : ¬ (n : Int) = 54 := by omega
      simpa using this
    clear h54
    go_enter Try.func17, Try.ntmps17
    go_wp2_with fail
    (try simp only [Exit.inBlock, Exit.then])
    refine bodyPost_ret (v := .tuple #[.agg #[.int .i64 0, .int .i64 0, .int .i64 0], .bool false]) ?_ rfl (d_make HD.out ?_)
    · rw [results_cell_tmp1 rfl]
      go_simp
    · (repeat' (first | exact Below.refl _ _ | refine Below.setCell ?_ (by simp) _ | refine Below.alloc ?_ (by simp <;> omega) _))
/-- A cut of a slice at a row's head, as a run. -/
theorem slice_mid {P : Program} (t E : TypeId) (i0 : TypeInfo) (hu : P.underlying t = some (.slice E)) (hi : P.info? E = some i0) (hs : i0.size = 1) (b n c i j : Nat) (hij : i ≤ j) (hj : j ≤ c) (hic : i < c) (W : World) :
    (Instr.slice t (.slice (some ⟨b, 0, none⟩) n c) (some (.int .i64 (i : Int))) (some (.int .i64 (j : Int))) none).run P W = .ok (.slice (some ⟨b, i, none⟩) (j - i) (c - i)) W := by
  have h3 : ¬ c = i := by omega
  simp [Instr.slice, run_underlying hu, Instr.sliceBounds, Instr.sliceBound, sizeOf, typeInfo, hi, hs, go_sem, h3, Addr.add, hij, hj]
  intro h; exact h.symm
theorem slice_low {P : Program} (t E : TypeId) (i0 : TypeInfo) (hu : P.underlying t = some (.slice E)) (hi : P.info? E = some i0) (b n c j : Nat) (hj : j ≤ c) (W : World) :
    (Instr.slice t (.slice (some ⟨b, 0, none⟩) n c) none (some (.int .i64 (j : Int))) none).run P W = .ok (.slice (some ⟨b, 0, none⟩) j c) W := by
  simp [Instr.slice, run_underlying hu, Instr.sliceBounds, Instr.sliceBound, sizeOf, typeInfo, hi, go_sem, Addr.add, hj]
theorem take_next {L : List Int} {k : Nat} (h : k < L.length) {v : Int} (hv : L.getD k 0 = v) : L.take (k + 1) = L.take k ++ [v] := by
  rw [List.take_add_one, ← hv, List.getElem?_eq_getElem h, List.getD_eq_getElem?_getD, List.getElem?_eq_getElem h]; rfl
theorem maj_next (zs : List Int) {k : Nat} (h : k < 18) {v : Int} (hv : mj zs k = v) : (maj zs).take (k + 1) = (maj zs).take k ++ [v] :=
  take_next (by rw [maj_len]; exact h) (by rw [maj_at zs h, hv])
end Go.Proofs.Ytdelpepepbkjmaa.phs
