/- Merged texts of this seat. Ph3: The majority of three copies and DecodeHeader, program and specification. Condition: none. | Ph4: DecodeHeader of the specification. Condition: none. | Bits6: BytesToBits of the program: its iterator over the bits (a range over a function). Condition: lengths up to 2^26. | Btb: BytesToBits of the specification. Condition: lengths up to 2^26. | App2: An append onto a slice of numbers of the call's own that spares the blocks c1 to below c2, in which the slice does not lie. Condition: together at most 2^30 elements of at most 8 bytes. | Cnv2: The encoder, program and specification. Condition: lengths up to 2^26. | Cnv3: Puncturing, program and specification. Condition: lengths up to 2^26. | Draw2: What the draws of numbers and strings return, in ranges. Condition: the bytes that are drawn from are a slice that came in. | DrawB: Drawn slices of bytes, and an append between two draws. Condition: the bytes that are drawn from are a slice that came in. | DrawS: The draws of strings: picks out of a list of strings. Condition: the bytes that are drawn from are a slice that came in. | Draw5: The draws of stage 3: a key, lists of words, bytes, a label. Condition: the bytes that are drawn from are a slice that came in. | Draw6: The draws of stage 4: bit strings, sometimes with an element that is no bit; bytes. Condition: the bytes that are drawn from are a slice that came in. -/
import Derived.RangeFuncBox
import Derived.RangeFuncLeaves
import Derived.Shelf.Abstract
import Derived.OwnWalkIn
import Derived.TacticsInMore
import Derived.LoopNIn
import Derived.LoopIn
import Derived.WalkMore
import Derived.Test.YtdelpepepbkjmaaGreatDoorG1
import Derived.Test.YtdelpepepbkjmaaGreatDoorG2
import Derived.Test.YtdelpepepbkjmaaGreatDoorG3
section
namespace Go.Proofs.YtdelpepepbkjmaaGreatDoor.phs
open Go.RowKit sl harn rng phm

theorem results_cell_tmp1 {fn : Func} {p u : Tmp} {ty : TypeId} (h : fn.results = #[.cell p ty, .tmp u]) (tmps : Array Value) (P : Program) (w : World) :
    (results fn tmps).run P w =
      ((asAddr (tmps.getD p undef)).run P w).andThen fun a w₁ => ((loadVar ty a).run P w₁).andThen fun v w₂ => .ok (.tuple #[v, tmps.getD u undef]) w₂ := by
  simp only [results, h]
  simp [Sem.run_bind, Result.andThen]
theorem Rd.three (k : IntKind) (E : TypeId) (w : World) (x y z : Int) (hx : (Lit.int k x).wf = true) (hy : (Lit.int k y).wf = true) (hz : (Lit.int k z).wf = true) : Rd k (w.alloc (.cells #[.int k x, .int k y, .int k z] E)) w.heap.size (w.heap.size + 1) (some ⟨w.heap.size, 0, none⟩) 3 3 [x, y, z] :=
  ⟨rfl, by omega, by unfold maxLen; omega, by simp, fun v hv => by
    rcases List.mem_cons.1 hv with rfl | hv
    · exact hx
    · rcases List.mem_cons.1 hv with rfl | hv
      · exact hy
      · have : v = z := by simpa using hv
        rw [this]; exact hz, fun _ => ⟨_, 0, rfl, Nat.le_refl _, by omega, fun i hi => by
    have : i = 0 ∨ i = 1 ∨ i = 2 := by omega
    rcases this with rfl | rfl | rfl <;> simp⟩⟩
/-- The majority, as far as k. -/
def mk (zs : List Int) (k : Nat) : List Int := (maj zs).take k ++ List.replicate (18 - k) 0
theorem mk_len (zs : List Int) {k : Nat} (h : k ≤ 18) : (mk zs k).length = 18 := by simp [mk, maj_len]; omega
theorem mk_zero (zs : List Int) : mk zs 0 = List.replicate 18 0 := by simp [mk]
theorem mk_all (zs : List Int) : mk zs 18 = maj zs := by simp [mk, List.take_of_length_le, maj_len]
theorem mk_wf (zs : List Int) (k : Nat) : Wf .i64 (mk zs k) := (Wf.take (Wf.of_i64 fun z hz => by have := maj_bit zs z hz; omega) k).append (Wf.of_i64 fun z hz => by have := List.eq_of_mem_replicate hz; omega)
theorem mk_at (zs : List Int) {k j : Nat} (hj : j < 18) (hk : k ≤ 18) : (mk zs k).getD j 0 = if j < k then mj zs j else 0 := by
  unfold mk
  rw [List.getD_eq_getElem?_getD]
  by_cases h : j < k
  · rw [if_pos h, List.getElem?_append_left (by rw [List.length_take, maj_len]; omega), List.getElem?_take, if_pos h, ← List.getD_eq_getElem?_getD, maj_at zs hj]
  · rw [if_neg h, List.getElem?_append_right (by rw [List.length_take, maj_len]; omega), List.length_take, maj_len, List.getElem?_replicate]
    split <;> rfl
theorem mk_set (zs : List Int) {k : Nat} (hk : k < 18) {v : Int} (hv : mj zs k = v) : (mk zs k).set k v = mk zs (k + 1) := by
  refine list_eq (n := 18) (by rw [List.length_set, mk_len zs (by omega)]) (mk_len zs (by omega)) fun i hi => ?_
  rw [getD_set _ _ _ _ (by rw [mk_len zs (by omega)]; exact hi), mk_at zs hi (by omega), mk_at zs hi (by omega)]
  by_cases h : k = i
  · subst h; rw [if_pos rfl, if_pos (by omega), hv]
  · rw [if_neg h]
    by_cases h2 : i < k
    · rw [if_pos h2, if_pos (by omega)]
    · rw [if_neg h2, if_neg (by omega)]
theorem mk_skip (zs : List Int) {k : Nat} (hk : k < 18) (hv : mj zs k = 0) : mk zs k = mk zs (k + 1) := by
  refine list_eq (n := 18) (mk_len zs (by omega)) (mk_len zs (by omega)) fun i hi => ?_
  rw [mk_at zs hi (by omega), mk_at zs hi (by omega)]
  by_cases h : i = k
  · subst h; rw [if_neg (by omega), if_pos (by omega), hv]
  · by_cases h2 : i < k
    · rw [if_pos h2, if_pos (by omega)]
    · rw [if_neg h2, if_neg (by omega)]
theorem mj_yes {zs : List Int} {k : Nat} {x y z v : Int} (hx : zs.getD k 0 = x) (hy : zs.getD (k + 18) 0 = y) (hz : zs.getD (k + 36) 0 = z) (hv : bm.wt [x, y, z] = v) (h : 2 ≤ v) : mj zs k = 1 := by
  unfold mj; rw [hx, hy, hz, hv, if_pos h]
theorem mj_no {zs : List Int} {k : Nat} {x y z v : Int} (hx : zs.getD k 0 = x) (hy : zs.getD (k + 18) 0 = y) (hz : zs.getD (k + 36) 0 = z) (hv : bm.wt [x, y, z] = v) (h : ¬ 2 ≤ v) : mj zs k = 0 := by
  unfold mj; rw [hx, hy, hz, hv, if_neg h]
structure MjCase (zs : List Int) (k : Nat) (v : Int) : Prop where
  yes : 2 ≤ v → mj zs k = 1
  no : ¬ 2 ≤ v → mj zs k = 0
/-- A row of exactly eighteen cells. -/
def MajPost (w : World) (zs : List Int) (e : Ending) (w' : World) : Prop :=
  ∃ b, e = .returned (.slice (some ⟨b, 0, none⟩) 18 18) ∧ Ow 3 .i64 w' w.heap.size w'.heap.size (some ⟨b, 0, none⟩) 18 18 zs ∧ Below w.heap.size w w'
set_option maxRecDepth 100000 in
set_option maxHeartbeats 4000000 in
theorem implMaj (zs : List Int) (lo hi : Nat) (A : Option Addr) (cap : Nat) (w : World) (h : Rd .i64 w lo hi A 54 cap zs) :
    Calls Tryz.prog 99 #[.slice A 54 cap] w (MajPost w (maj zs)) := by
  obtain ⟨i0, hi0, hz0, hz1, hz2⟩ := info_parts intInfo
  have hmk : ∀ W : World, (Instr.makeSlice 28 (.int .i64 18) (.int .i64 18)).run Tryz.prog W = .ok (.slice (some ⟨W.heap.size, 0, none⟩) 18 18) (W.alloc (.cells (madeCells #[.int .i64 0] 18) 3)) := fun W => run_make1 (P := Tryz.prog) 28 3 i0 _ Tryz.underlying28 hi0 hz0 hz1 18 (by omega) (by omega) W
  have HR := Lib.hid h
  have HL := Lib.hid h.len
  have O0 := Lib.hid (show Ow 3 .i64 (w.alloc (.cells (madeCells #[.int .i64 0] 18) 3)) w.heap.size (w.alloc (.cells (madeCells #[.int .i64 0] 18) 3)).heap.size (some ⟨w.heap.size, 0, none⟩) 18 18 (mk zs 0) from
    Rw.own (L := mk zs 0) (by rw [mk_zero]; unfold Rw; rw [madeN 18]; exact heap_alloc_new w _) (mk_wf zs 0) (Nat.le_refl _) (mk_len zs (by omega)) (by unfold maxLen; omega))
  have B0 := Lib.hid (below_box w (.cells (madeCells #[.int .i64 0] 18) 3))
  clear h hi0 hz0 hz1 hz2
  go_enter Tryz.func99, Tryz.ntmps99
  go_wp2_with fail
  clear hmk
  go_loopw [9] (fun i wr => ∃ k : Nat, i = .int .i64 k ∧ k ≤ 18 ∧ Ow 3 .i64 wr w.heap.size (w.heap.size + 1) (some ⟨w.heap.size, 0, none⟩) 18 18 (mk zs k) ∧ Below w.heap.size w wr) (fun i _ => 18 - (intOf i).toNat)
  case atStart => exact ⟨0, rfl, by omega, by have := O0.out; simpa using this, B0.out⟩
  case round =>
    clear O0 B0
    obtain ⟨w1, rfl⟩ : ∃ w1, w1 = wr := ⟨wr, rfl⟩
    obtain ⟨k, rfl, hk, ho, hb⟩ := hrel
    have O1 := Lib.hid ho
    have B1 := Lib.hid hb
    clear ho hb
    by_cases hlt : k < 18
    · obtain ⟨b, off, rfl, h1, h2, hc⟩ := (HR.out.below B1.out).at_ (i := k) (by omega)
      obtain ⟨b', off', e, _, _, hc'⟩ := (HR.out.below B1.out).at_ (i := k + 18) (by omega)
      injection e with e; injection e with e1 e2 e3
      subst e1 e2
      obtain ⟨b', off', e, _, _, hc''⟩ := (HR.out.below B1.out).at_ (i := k + 36) (by omega)
      injection e with e; injection e with e1 e2 e3
      subst e1 e2
      obtain ⟨x, hx⟩ : ∃ x, zs.getD k 0 = x := ⟨_, rfl⟩
      obtain ⟨y, hy⟩ : ∃ y, zs.getD (k + 18) 0 = y := ⟨_, rfl⟩
      obtain ⟨z, hz⟩ : ∃ z, zs.getD (k + 36) 0 = z := ⟨_, rfl⟩
      rw [hx] at hc
      rw [hy] at hc'
      rw [hz] at hc''
      obtain ⟨v, hv⟩ : ∃ v, bm.wt [x, y, z] = v := ⟨_, rfl⟩
      have HX := Lib.hid (own.wf_at HR.out.wf HL.out (k := k) (by omega) hx)
      have HY := Lib.hid (own.wf_at HR.out.wf HL.out (k := k + 18) (by omega) hy)
      have HZ := Lib.hid (own.wf_at HR.out.wf HL.out (k := k + 36) (by omega) hz)
      have HV := Lib.hid hv
      have HM := Lib.hid (show MjCase zs k v from ⟨fun h => mj_yes hx hy hz hv h, fun h => mj_no hx hy hz hv h⟩)
      obtain ⟨p, hp⟩ : ∃ p : Nat, k + 18 = p := ⟨_, rfl⟩
      obtain ⟨q, hq⟩ : ∃ q : Nat, k + 36 = q := ⟨_, rfl⟩
      rw [hp] at hc'
      rw [hq] at hc''
      have a1 : (k : Int) + 18 = p := by omega
      have a2 : (k : Int) + 36 = q := by omega
      have a3 : IntKind.i64.wrap (p : Int) = p := IntWalk.i64_in _ (by omega)
      have a4 : IntKind.i64.wrap (q : Int) = q := IntWalk.i64_in _ (by omega)
      have a5 : (p : Int) < 54 := by omega
      have a6 : (q : Int) < 54 := by omega
      have a7 : (k : Int) < 18 := by omega
      have a8 : (k : Int) < 54 := by omega
      clear hx hy hz hv e3 hp hq h1 h2
      go_wp2_with fail
      go_region
      have R2 := Lib.hid (own.rd_drew (Rd.three .i64 3 w1 x y z HX.out HY.out HZ.out))
      have O2 := Lib.hid (own.ow_drew (O1.out.alloc (.cells #[.int .i64 x, .int .i64 y, .int .i64 z] 3)))
      have B2 := Lib.hid (own.below_drew (B1.out.alloc B1.out.size (.cells #[.int .i64 x, .int .i64 y, .int .i64 z] 3)))
      clear hc hc' hc'' a1 a2 a3 a4 a5 a6 e3
      go_wp2_with fail
      (with_reducible refine (bits.implWt [x, y, z] _ _ _ 3 3 _ R2.out).mono ?_)
      rw [HV.out]
      rintro e w2 ⟨rfl, rfl⟩
      clear R2
      generalize hW : (w1.alloc (.cells #[.int .i64 x, .int .i64 y, .int .i64 z] 3)).drew = w2
      rw [hW] at O2 B2
      clear hW
      by_cases h2 : 2 ≤ v
      · have hcell := own.cell_of O2.out (j := k) (by omega)
        have hfr := O2.out.free rfl k
        have O3 := Lib.hid (own.ow_set O2.out k 1 (WalkArith.wf_i64 (by omega)))
        rw [mk_set zs hlt (HM.out.yes h2)] at O3
        have B3 := Lib.hid (B2.out.setCell (p := ⟨w.heap.size, k, none⟩) (Nat.le_refl _) (.int .i64 1))
        go_wp2_with fail
        go_roundw
        case rel => exact ⟨k + 1, by go_num, by omega, O3.out, B3.out⟩
        case measure => simp [intOf]; omega
      · have O3 := Lib.hid O2.out
        rw [mk_skip zs hlt (HM.out.no h2)] at O3
        go_wp2_with fail
        go_roundw
        case rel => exact ⟨k + 1, by go_num, by omega, O3.out, B2.out⟩
        case measure => simp [intOf]; omega
    · have hlt2 : ¬ (k : Int) < 18 := by omega
      obtain rfl : k = 18 := by omega
      have O2 := O1
      rw [mk_all] at O2
      go_wp2_with fail
      go_ret
      exact ⟨_, rfl, O2.out.up, B1.out⟩
theorem bti_in {L : List Int} {i j : Nat} (h : ∀ z ∈ L, 0 ≤ z ∧ z ≤ 1) (hj : j ≤ 40) : bm.bti ((L.drop i).take j) = bm.num ((L.drop i).take j) :=
  bm.bti_yes ((bm.isb_iff _).2 fun z hz => h z (List.mem_of_mem_drop (List.mem_of_mem_take hz))) (by rw [List.length_take]; omega)
theorem bti_r (zs : List Int) : bm.bti (((maj zs).drop 0).take 2) = fr (maj zs) := bti_in (maj_bit zs) (by omega)
theorem bti_l (zs : List Int) : bm.bti (((maj zs).drop 2).take 8) = fl (maj zs) := bti_in (maj_bit zs) (by omega)
theorem bti_s (zs : List Int) : bm.bti (((maj zs).drop 10).take 7) = fs (maj zs) := bti_in (maj_bit zs) (by omega)
/-- What a decoding hands back. -/
def DPost (t : (Int × Int × Int) × Bool) (w : World) (e : Ending) (w' : World) : Prop :=
  e = .returned (.tuple #[.agg #[.int .i64 t.1.1, .int .i64 t.1.2.1, .int .i64 t.1.2.2], .bool t.2]) ∧ Below w.heap.size w w'
theorem d_parts {t : (Int × Int × Int) × Bool} {a b c : Int} {z : Bool} (ht : t = ((a, b, c), z)) {w w' : World} {e : Ending} (h : DPost t w e w') :
    e = .returned (.tuple #[.agg #[.int .i64 a, .int .i64 b, .int .i64 c], .bool z]) ∧ Below w.heap.size w w' := by
  subst ht; exact h
theorem d_make {t : (Int × Int × Int) × Bool} {a b c : Int} {z : Bool} (ht : t = ((a, b, c), z)) {w w' : World} (h : Below w.heap.size w w') : DPost t w (.returned (.tuple #[.agg #[.int .i64 a, .int .i64 b, .int .i64 c], .bool z])) w' := by
  subst ht; exact ⟨rfl, h⟩
set_option maxRecDepth 100000 in
set_option maxHeartbeats 4000000 in
theorem implDec (zs : List Int) (lo hi : Nat) (A : Option Addr) (n cap : Nat) (w : World) (h : Rd .i64 w lo hi A n cap zs) :
    Calls Tryz.prog 63 #[.slice A n cap] w (DPost (dh zs) w) := by
  have hb := h.cap_
  have HL := Lib.hid h.len
  have HR := Lib.hid h
  clear h
  by_cases h54 : n = 54
  · subst h54
    obtain ⟨r, hr⟩ : ∃ r, fr (maj zs) = r := ⟨_, rfl⟩
    obtain ⟨l, hl⟩ : ∃ l, fl (maj zs) = l := ⟨_, rfl⟩
    obtain ⟨s, hs⟩ : ∃ s, fs (maj zs) = s := ⟨_, rfl⟩
    have E1 := Lib.hid (show bm.bti (((maj zs).drop 0).take 2) = r by rw [bti_r, hr])
    have E2 := Lib.hid (show bm.bti (((maj zs).drop 2).take 8) = l by rw [bti_l, hl])
    have E3 := Lib.hid (show bm.bti (((maj zs).drop 10).take 7) = s by rw [bti_s, hs])
    have HRS := Lib.hid (And.intro hr (And.intro hl hs))
    clear hr hl hs
    go_enter Tryz.func63, Tryz.ntmps63
    go_wp2_with fail
    generalize hW0 : w.alloc (.cells #[.int .i64 0, .int .i64 0, .int .i64 0] 25) = w0
    have X0 := Lib.hid (show Box w0 w.heap.size 0 0 0 by rw [← hW0]; exact Box.made _ _ _ _)
    have B0 := Lib.hid (show Below w.heap.size w w0 by rw [← hW0]; exact below_box _ _)
    have R0 := Lib.hid (HR.out.below B0.out)
    clear hW0
    (with_reducible refine (implMaj zs _ _ A cap _ R0.out).mono ?_)
    rintro e w1 ⟨b, rfl, ho, hb1⟩
    have O1 := Lib.hid ho
    have X1 := Lib.hid (X0.out.below hb1)
    have B1 := Lib.hid (B0.out.trans (hb1.mono B0.out.size))
    have C1 := Lib.hid (own.rd_drew (ho.rd.cut 0 2 18 (some ⟨b, 0, none⟩) (fun _ => by simp [Addr.add]) (by omega) (by omega) (by omega) (by unfold maxLen; omega)))
    have C2 := Lib.hid (own.rd_drew (ho.rd.cut 2 10 16 (some ⟨b, 2, none⟩) (fun _ => by simp [Addr.add]) (by omega) (by omega) (by omega) (by unfold maxLen; omega)))
    have C3 := Lib.hid (own.rd_drew (ho.rd.cut 10 17 8 (some ⟨b, 10, none⟩) (fun _ => by simp [Addr.add]) (by omega) (by omega) (by omega) (by unfold maxLen; omega)))
    clear ho hb1 X0 B0 R0
    go_wp2_with fail
    have XD := Lib.hid (show Box w1.drew w.heap.size 0 0 0 from X1.out)
    have XA := Lib.hid (fun (o : Obj) => XD.out.below (below_box w1.drew o))
    have a1 : IntKind.i64.wrap 17 = 17 := by decide
    go_region_held3 (fun w' => Box w' w.heap.size 0 0 0) (first | exact XD.out | exact XA.out _ | exact (XA.out _).same (Below.heap_setCell _ _ _ _ (by have := X1.out.lt; simp; omega)))
      (first
      | (have g9 := m2; clear g9; go_at_call 100; refine (bits.implBti (((maj zs).drop 10).take 7) w0.heap.size w1.heap.size (some ⟨b, 10, none⟩) 7 8 _ (by first | exact C3.out | exact C3.out.alloc _)).mono ?_; rw [E3.out]; rintro e w' ⟨rfl, rfl⟩)
      | (have g9 := m1; clear g9; go_at_call 100; refine (bits.implBti (((maj zs).drop 2).take 8) w0.heap.size w1.heap.size (some ⟨b, 2, none⟩) 8 16 _ (by first | exact C2.out | exact C2.out.alloc _)).mono ?_; rw [E2.out]; rintro e w' ⟨rfl, rfl⟩; have m2 := B1)
      | (go_at_call 100; refine (bits.implBti (((maj zs).drop 0).take 2) w0.heap.size w1.heap.size (some ⟨b, 0, none⟩) 2 18 _ (by first | exact C1.out | exact C1.out.alloc _)).mono ?_; rw [E1.out]; rintro e w' ⟨rfl, rfl⟩; have m1 := B1))
    all_goals
     (clear C1 C2 C3 XD XA a1 m1 m2
      have X2 := Lib.hid (show Box (w1.alloc (.cells #[.int .i64 r, .int .i64 l, .int .i64 s] 25)).drew w.heap.size 0 0 0 from (show Box (w1.alloc _) w.heap.size 0 0 0 from X1.out.below (below_box w1 _)))
      have Y2 := Lib.hid (show Box (w1.alloc (.cells #[.int .i64 r, .int .i64 l, .int .i64 s] 25)).drew w1.heap.size r l s from Box.made w1 r l s)
      have O2 := Lib.hid (own.ow_drew (O1.out.alloc (.cells #[.int .i64 r, .int .i64 l, .int .i64 s] 25)))
      have B2 := Lib.hid (own.below_drew (B1.out.alloc B1.out.size (.cells #[.int .i64 r, .int .i64 l, .int .i64 s] 25)))
      generalize hW2 : (w1.alloc (.cells #[.int .i64 r, .int .i64 l, .int .i64 s] 25)).drew = w2
      rw [hW2] at X2 Y2 O2 B2
      clear hW2 O1 X1 B1
      have y0 := Y2.out.c0
      have y1 := Y2.out.c1
      have y2 := Y2.out.c2
      obtain ⟨p, hp⟩ : ∃ p, bits.par (maj zs) = p := ⟨_, rfl⟩
      have HP := Lib.hid hp
      clear hp
      by_cases hp0 : p = 0
      · subst hp0
        by_cases hv : Hv r l s
        · have HVV := Lib.hid (hv_yes hv)
          have HD := Lib.hid (show dh zs = ((r, l, s), true) by
            obtain ⟨e1, e2, e3⟩ := HRS.out
            have := dh_yes (zs := zs) ⟨HL.out, HP.out, by rw [e1, e2, e3]; exact hv⟩
            rw [e1, e2, e3] at this; exact this)
          clear hv
          go_wp2_with fail
          (with_reducible refine (bits.implPar (maj zs) _ _ (some ⟨b, 0, none⟩) 18 18 _ O2.out.rd).mono ?_)
          rw [HP.out]
          rintro e w3 ⟨rfl, rfl⟩
          go_wp2_with fail
          (with_reducible refine (implHv r l s _).mono ?_)
          rw [HVV.out]
          rintro e w3 ⟨rfl, hb3⟩
          have X3 := Lib.hid (X2.out.below hb3)
          have Y3 := Lib.hid (Y2.out.below hb3)
          have B3 := Lib.hid (B2.out.trans (hb3.mono B2.out.size))
          clear hb3 y0 y1 y2
          have y0 := Y3.out.c0
          have y1 := Y3.out.c1
          have y2 := Y3.out.c2
          have z0 := X3.out.c0
          have z1 := X3.out.c1
          have z2 := X3.out.c2
          have f0 := X3.out.free 0
          have f1 := X3.out.free 1
          have f2 := X3.out.free 2
          go_wp2_with fail
          (try simp only [Exit.inBlock, Exit.then])
          refine bodyPost_ret (v := .tuple #[.agg #[.int .i64 r, .int .i64 l, .int .i64 s], .bool true]) ?_ rfl (d_make HD.out ?_)
          · rw [results_cell_tmp1 rfl]
            go_simp
          · exact (((B3.out.setCell (p := ⟨w.heap.size, 0, none⟩) (Nat.le_refl _) _).setCell (p := ⟨w.heap.size, 1, none⟩) (Nat.le_refl _) _).setCell (p := ⟨w.heap.size, 2, none⟩) (Nat.le_refl _) _)
        · have HVV := Lib.hid (hv_no hv)
          have HD := Lib.hid (show dh zs = ((0, 0, 0), false) by
            obtain ⟨e1, e2, e3⟩ := HRS.out
            exact dh_no fun g => hv (by have := g.2.2; rw [e1, e2, e3] at this; exact this))
          clear hv
          go_wp2_with fail
          (with_reducible refine (bits.implPar (maj zs) _ _ (some ⟨b, 0, none⟩) 18 18 _ O2.out.rd).mono ?_)
          rw [HP.out]
          rintro e w3 ⟨rfl, rfl⟩
          go_wp2_with fail
          (with_reducible refine (implHv r l s _).mono ?_)
          rw [HVV.out]
          rintro e w3 ⟨rfl, hb3⟩
          have X3 := Lib.hid (X2.out.below hb3)
          have B3 := Lib.hid (B2.out.trans (hb3.mono B2.out.size))
          clear hb3 y0 y1 y2
          have z0 := X3.out.c0
          have z1 := X3.out.c1
          have z2 := X3.out.c2
          have f0 := X3.out.free 0
          have f1 := X3.out.free 1
          have f2 := X3.out.free 2
          go_wp2_with fail
          (try simp only [Exit.inBlock, Exit.then])
          refine bodyPost_ret (v := .tuple #[.agg #[.int .i64 0, .int .i64 0, .int .i64 0], .bool false]) ?_ rfl (d_make HD.out ?_)
          · rw [results_cell_tmp1 rfl]
            go_simp
          · exact (((B3.out.setCell (p := ⟨w.heap.size, 0, none⟩) (Nat.le_refl _) _).setCell (p := ⟨w.heap.size, 1, none⟩) (Nat.le_refl _) _).setCell (p := ⟨w.heap.size, 2, none⟩) (Nat.le_refl _) _)
      · have HD := Lib.hid (show dh zs = ((0, 0, 0), false) from dh_no fun g => hp0 (by rw [← HP.out]; exact g.2.1))
        have hp1 : (p == 0) = false := by simpa using hp0
        have z0 := X2.out.c0
        have z1 := X2.out.c1
        have z2 := X2.out.c2
        have f0 := X2.out.free 0
        have f1 := X2.out.free 1
        have f2 := X2.out.free 2
        go_wp2_with fail
        (with_reducible refine (bits.implPar (maj zs) _ _ (some ⟨b, 0, none⟩) 18 18 _ O2.out.rd).mono ?_)
        rw [HP.out]
        rintro e w3 ⟨rfl, rfl⟩
        go_wp2_with fail
        (try simp only [Exit.inBlock, Exit.then])
        refine bodyPost_ret (v := .tuple #[.agg #[.int .i64 0, .int .i64 0, .int .i64 0], .bool false]) ?_ rfl (d_make HD.out ?_)
        · rw [results_cell_tmp1 rfl]
          go_simp
        · exact (((B2.out.setCell (p := ⟨w.heap.size, 0, none⟩) (Nat.le_refl _) _).setCell (p := ⟨w.heap.size, 1, none⟩) (Nat.le_refl _) _).setCell (p := ⟨w.heap.size, 2, none⟩) (Nat.le_refl _) _))
  · have HD := Lib.hid (dh_no (zs := zs) (fun g => h54 (by rw [← HL.out]; exact g.1)))
    have hn : ((n : Int) == 54) = false := by
      have : ¬ (n : Int) = 54 := by omega
      simpa using this
    clear h54
    go_enter Tryz.func63, Tryz.ntmps63
    go_wp2_with fail
    (try simp only [Exit.inBlock, Exit.then])
    refine bodyPost_ret (v := .tuple #[.agg #[.int .i64 0, .int .i64 0, .int .i64 0], .bool false]) ?_ rfl (d_make HD.out ?_)
    · rw [results_cell_tmp1 rfl]
      go_simp
    · (repeat' (first | exact Below.refl _ _ | refine Below.setCell ?_ (by simp) _ | refine Below.alloc ?_ (by simp <;> omega) _))
/-- A cut of a slice at a row's head, as a run. -/
theorem slice_mid {P : Program} (t E : TypeId) (i0 : TypeInfo) (hu : P.underlying t = some (.slice E)) (hi : P.info? E = some i0) (hs : i0.size = 1) (b n c i j : Nat) (hij : i ≤ j) (hj : j ≤ c) (hic : i < c) (W : World) :
    (Instr.slice t (.slice (some ⟨b, 0, none⟩) n c) (some (.int .i64 (i : Int))) (some (.int .i64 (j : Int))) none).run P W = .ok (.slice (some ⟨b, i, none⟩) (j - i) (c - i)) W := by
  have h3 : ¬ c = i := by omega
  simp [Instr.slice, run_underlying hu, Instr.sliceBounds, Instr.sliceBound, sizeOf, typeInfo, hi, hs, go_sem, h3, Addr.add, hij, hj]
  intro h; exact h.symm
theorem slice_low {P : Program} (t E : TypeId) (i0 : TypeInfo) (hu : P.underlying t = some (.slice E)) (hi : P.info? E = some i0) (b n c j : Nat) (hj : j ≤ c) (W : World) :
    (Instr.slice t (.slice (some ⟨b, 0, none⟩) n c) none (some (.int .i64 (j : Int))) none).run P W = .ok (.slice (some ⟨b, 0, none⟩) j c) W := by
  simp [Instr.slice, run_underlying hu, Instr.sliceBounds, Instr.sliceBound, sizeOf, typeInfo, hi, go_sem, Addr.add, hj]
theorem take_next {L : List Int} {k : Nat} (h : k < L.length) {v : Int} (hv : L.getD k 0 = v) : L.take (k + 1) = L.take k ++ [v] := by
  rw [List.take_add_one, ← hv, List.getElem?_eq_getElem h, List.getD_eq_getElem?_getD, List.getElem?_eq_getElem h]; rfl
theorem maj_next (zs : List Int) {k : Nat} (h : k < 18) {v : Int} (hv : mj zs k = v) : (maj zs).take (k + 1) = (maj zs).take k ++ [v] :=
  take_next (by rw [maj_len]; exact h) (by rw [maj_at zs h, hv])
end Go.Proofs.YtdelpepepbkjmaaGreatDoor.phs
end

section
namespace Go.Proofs.YtdelpepepbkjmaaGreatDoor.phs
open Go.RowKit sl harn rng phm

set_option maxRecDepth 100000 in
set_option maxHeartbeats 4000000 in
theorem specDec (zs : List Int) (lo hi : Nat) (A : Option Addr) (n cap : Nat) (w : World) (h : Rd .i64 w lo hi A n cap zs) :
    Calls Tryz.prog 38 #[.slice A n cap] w (DPost (dh zs) w) := by
  obtain ⟨i0, hi0, hz0, hz1, hz2⟩ := info_parts intInfo
  have HI0 := Lib.hid (And.intro hi0 (And.intro hz0 (And.intro hz1 hz2)))
  have hb := h.cap_
  have HL := Lib.hid h.len
  have HR := Lib.hid h
  clear h hi0 hz0 hz1 hz2
  by_cases h54 : n = 54
  · subst h54
    obtain ⟨r, hr⟩ : ∃ r, fr (maj zs) = r := ⟨_, rfl⟩
    obtain ⟨l, hl⟩ : ∃ l, fl (maj zs) = l := ⟨_, rfl⟩
    obtain ⟨s, hs⟩ : ∃ s, fs (maj zs) = s := ⟨_, rfl⟩
    have E1 := Lib.hid (show bm.bti (((maj zs).drop 0).take 2) = r by rw [bti_r, hr])
    have E2 := Lib.hid (show bm.bti (((maj zs).drop 2).take 8) = l by rw [bti_l, hl])
    have E3 := Lib.hid (show bm.bti (((maj zs).drop 10).take 7) = s by rw [bti_s, hs])
    have HRS := Lib.hid (And.intro hr (And.intro hl hs))
    clear hr hl hs
    go_enter Tryz.func38, Tryz.ntmps38
    go_wp2_with fail
    generalize hW0 : (w.alloc (.cells #[.int .i64 0, .int .i64 0, .int .i64 0] 25)).alloc (.cells #[] 3) = w0
    have X0 := Lib.hid (show Box w0 w.heap.size 0 0 0 by rw [← hW0]; exact (Box.made w 0 0 0).below (below_box _ _))
    have B0 := Lib.hid (show Below w.heap.size w w0 by rw [← hW0]; exact below_box2 _ _ _)
    have S0 := Lib.hid (show w.heap.size + 1 ≤ w0.heap.size by rw [← hW0]; simp)
    have O0 := Lib.hid (show Ow 3 .i64 w0 (w.heap.size + 1) w0.heap.size (some ⟨w.heap.size + 1, 0, none⟩) 0 0 ((maj zs).take 0) by
      rw [← hW0]
      have := Ow.empty 3 .i64 (w.alloc (.cells #[.int .i64 0, .int .i64 0, .int .i64 0] 25))
      simpa using this)
    clear hW0
    go_loopw [4, 5] (fun v i wr => ∃ (k : Nat) (B : Option Addr) (c : Nat), v = .slice B k c ∧ i = .int .i64 k ∧ k ≤ 18 ∧ Ow 3 .i64 wr (w.heap.size + 1) wr.heap.size B k c ((maj zs).take k) ∧ Below (w.heap.size + 1) w0 wr) (fun _ i _ => 18 - (intOf i).toNat)
    case atStart => exact ⟨0, _, _, rfl, rfl, by omega, O0.out, Below.refl _ _⟩
    case round =>
      clear O0
      obtain ⟨w1, rfl⟩ : ∃ w1, w1 = wr := ⟨wr, rfl⟩
      obtain ⟨k, B, c, rfl, rfl, hk, ho, hbl⟩ := hrel
      have O1 := Lib.hid ho
      have BL := Lib.hid hbl
      have B1 := Lib.hid (B0.out.trans (hbl.mono (Nat.le_succ _)))
      have S1 := Lib.hid (show w.heap.size + 1 ≤ w1.heap.size by have := hbl.size; have := S0.out; omega)
      clear ho hbl
      by_cases hlt : k < 18
      · obtain ⟨b, off, rfl, h1, h2, hc⟩ := (HR.out.below B1.out).at_ (i := k) (by omega)
        obtain ⟨b', off', e, _, _, hc'⟩ := (HR.out.below B1.out).at_ (i := k + 18) (by omega)
        injection e with e; injection e with e1 e2 e3
        subst e1 e2
        obtain ⟨b', off', e, _, _, hc''⟩ := (HR.out.below B1.out).at_ (i := k + 36) (by omega)
        injection e with e; injection e with e1 e2 e3
        subst e1 e2
        obtain ⟨x, hx⟩ : ∃ x, zs.getD k 0 = x := ⟨_, rfl⟩
        obtain ⟨y, hy⟩ : ∃ y, zs.getD (k + 18) 0 = y := ⟨_, rfl⟩
        obtain ⟨z, hz⟩ : ∃ z, zs.getD (k + 36) 0 = z := ⟨_, rfl⟩
        rw [hx] at hc
        rw [hy] at hc'
        rw [hz] at hc''
        obtain ⟨v, hv⟩ : ∃ v, bm.wt [x, y, z] = v := ⟨_, rfl⟩
        have HX := Lib.hid (own.wf_at HR.out.wf HL.out (k := k) (by omega) hx)
        have HY := Lib.hid (own.wf_at HR.out.wf HL.out (k := k + 18) (by omega) hy)
        have HZ := Lib.hid (own.wf_at HR.out.wf HL.out (k := k + 36) (by omega) hz)
        have HV := Lib.hid hv
        have HM := Lib.hid (show MjCase zs k v from ⟨fun h => mj_yes hx hy hz hv h, fun h => mj_no hx hy hz hv h⟩)
        obtain ⟨p, hp⟩ : ∃ p : Nat, k + 18 = p := ⟨_, rfl⟩
        obtain ⟨q, hq⟩ : ∃ q : Nat, k + 36 = q := ⟨_, rfl⟩
        rw [hp] at hc'
        rw [hq] at hc''
        have a1 : (k : Int) + 18 = p := by omega
        have a2 : (k : Int) + 36 = q := by omega
        have a3 : IntKind.i64.wrap (p : Int) = p := IntWalk.i64_in _ (by omega)
        have a4 : IntKind.i64.wrap (q : Int) = q := IntWalk.i64_in _ (by omega)
        have a5 : (p : Int) < 54 := by omega
        have a6 : (q : Int) < 54 := by omega
        have a7 : (k : Int) < 18 := by omega
        have a8 : (k : Int) < 54 := by omega
        have R2 := Lib.hid (Rd.three .i64 3 w1.drew x y z HX.out HY.out HZ.out)
        have ne1 := World.new_ne w1 ⟨b, off + k, none⟩ hc
        have ne2 := World.new_ne w1 ⟨b, off + p, none⟩ hc'
        have ne3 := World.new_ne w1 ⟨b, off + q, none⟩ hc''
        clear hx hy hz hv e3 hp hq h1 h2
        go_wp2_with fail
        go_region_held3 (fun w' => w'.cell? ⟨b, off + k, none⟩ = some (.int .i64 x) ∧ w'.cell? ⟨b, off + p, none⟩ = some (.int .i64 y) ∧ w'.cell? ⟨b, off + q, none⟩ = some (.int .i64 z)) (first | exact ⟨hc, hc', hc''⟩ | go_keep)
          (first
          | (go_at_call 72; refine (bits.specWt [x, y, z] _ _ (some ⟨w1.drew.heap.size, 0, none⟩) 3 3 _ R2.out).mono ?_; rw [HV.out]; rintro e w' ⟨rfl, rfl⟩))
        have O2 := Lib.hid (own.ow_drew (O1.out.alloc (.cells #[.int .i64 x, .int .i64 y, .int .i64 z] 3)))
        have BL2 := Lib.hid (own.below_drew (BL.out.alloc S1.out (.cells #[.int .i64 x, .int .i64 y, .int .i64 z] 3)))
        have S2 := Lib.hid (show w.heap.size + 1 ≤ (w1.alloc (.cells #[.int .i64 x, .int .i64 y, .int .i64 z] 3)).drew.heap.size by have := S1.out; simp; omega)
        generalize hW : (w1.alloc (.cells #[.int .i64 x, .int .i64 y, .int .i64 z] 3)).drew = w2
        rw [hW] at O2 BL2 S2
        clear hW hc hc' hc'' a1 a2 a3 a4 a5 a6 a8 ne1 ne2 ne3 e3 R2
        by_cases h2 : 2 ≤ v
        · have HN := Lib.hid (maj_next zs hlt (HM.out.yes h2))
          go_wp2_with (at_builtin; refine wpList_app _ rfl _ _ 28 rfl 3 i0 _ .i64 Tryz.underlying28 HI0.out.1 HI0.out.2.1 HI0.out.2.2.1 (by rw [HI0.out.2.2.2]; omega) rfl rfl rfl (O2.out.alloc _) (Rd.one .i64 3 w2 1 (WalkArith.wf_i64 (by omega))) (by omega) (by have := S2.out; simp; omega) ?_; intro A3 c3 w3 ho3 hb3; have O3 := Lib.hid ho3; have BL3 := Lib.hid ((BL2.out.alloc S2.out _).trans hb3); clear ho3 hb3)
          go_roundw
          case rel => exact ⟨k + 1, _, _, rfl, by go_num, by omega, by rw [HN.out]; exact O3.out, BL3.out⟩
          case measure => simp [intOf]; omega
        · have HN := Lib.hid (maj_next zs hlt (HM.out.no h2))
          go_wp2_with (at_builtin; refine wpList_app _ rfl _ _ 28 rfl 3 i0 _ .i64 Tryz.underlying28 HI0.out.1 HI0.out.2.1 HI0.out.2.2.1 (by rw [HI0.out.2.2.2]; omega) rfl rfl rfl (O2.out.alloc _) (Rd.one .i64 3 w2 0 (WalkArith.wf_i64 (by omega))) (by omega) (by have := S2.out; simp; omega) ?_; intro A3 c3 w3 ho3 hb3; have O3 := Lib.hid ho3; have BL3 := Lib.hid ((BL2.out.alloc S2.out _).trans hb3); clear ho3 hb3)
          go_roundw
          case rel => exact ⟨k + 1, _, _, rfl, by go_num, by omega, by rw [HN.out]; exact O3.out, BL3.out⟩
          case measure => simp [intOf]; omega
      · have hlt2 : ¬ (k : Int) < 18 := by omega
        obtain rfl : k = 18 := by omega
        have hcc := O1.out.rd.cap_
        obtain ⟨b, rfl, _⟩ := own.own_some O1.out (by omega)
        have OB := Lib.hid (show Ow 3 .i64 w1 (w.heap.size + 1) w1.heap.size (some ⟨b, 0, none⟩) 18 c (maj zs) by have := O1.out; rwa [List.take_of_length_le (by rw [maj_len]; omega)] at this)
        have X1 := Lib.hid (X0.out.up BL.out (by omega))
        have C1 := Lib.hid (own.rd_drew (OB.out.rd.cut 0 2 c (some ⟨b, 0, none⟩) (fun _ => by simp [Addr.add]) (by omega) (by omega) (by omega) (by unfold maxLen; omega)))
        have C2 := Lib.hid (own.rd_drew (OB.out.rd.cut 2 10 (c - 2) (some ⟨b, 2, none⟩) (fun _ => by simp [Addr.add]) (by omega) (by omega) (by omega) (by unfold maxLen; omega)))
        have C3 := Lib.hid (own.rd_drew (OB.out.rd.cut 10 17 (c - 10) (some ⟨b, 10, none⟩) (fun _ => by simp [Addr.add]) (by omega) (by omega) (by omega) (by unfold maxLen; omega)))
        have XD := Lib.hid (show Box w1.drew w.heap.size 0 0 0 from X1.out)
        have XA := Lib.hid (fun (o : Obj) => XD.out.below (below_box w1.drew o))
        have sl1 : ∀ W, (Instr.slice 28 (.slice (some ⟨b, 0, none⟩) 18 c) none (some (.int .i64 2)) none).run Tryz.prog W = .ok (.slice (some ⟨b, 0, none⟩) 2 c) W := fun W => slice_low (P := Tryz.prog) 28 3 i0 Tryz.underlying28 HI0.out.1 b 18 c 2 (by omega) W
        have sl2 : ∀ W, (Instr.slice 28 (.slice (some ⟨b, 0, none⟩) 18 c) (some (.int .i64 2)) (some (.int .i64 10)) none).run Tryz.prog W = .ok (.slice (some ⟨b, 2, none⟩) 8 (c - 2)) W := fun W => slice_mid (P := Tryz.prog) 28 3 i0 Tryz.underlying28 HI0.out.1 HI0.out.2.2.1 b 18 c 2 10 (by omega) (by omega) (by omega) W
        have sl3 : ∀ W, (Instr.slice 28 (.slice (some ⟨b, 0, none⟩) 18 c) (some (.int .i64 10)) (some (.int .i64 17)) none).run Tryz.prog W = .ok (.slice (some ⟨b, 10, none⟩) 7 (c - 10)) W := fun W => slice_mid (P := Tryz.prog) 28 3 i0 Tryz.underlying28 HI0.out.1 HI0.out.2.2.1 b 18 c 10 17 (by omega) (by omega) (by omega) W
        clear O1 BL S1
        go_wp2_with fail
        go_region_held3 (fun w' => Box w' w.heap.size 0 0 0) (first | exact XD.out | exact XA.out _ | exact (XA.out _).same (Below.heap_setCell _ _ _ _ (by have := X1.out.lt; simp; omega)))
          (first
          | (have g9 := m2; clear g9; go_at_call 73; refine (bits.specBti (((maj zs).drop 10).take 7) (w.heap.size + 1) w1.heap.size (some ⟨b, 10, none⟩) 7 (c - 10) _ (by first | exact C3.out | exact C3.out.alloc _)).mono ?_; rw [E3.out]; rintro e w' ⟨rfl, rfl⟩)
          | (have g9 := m1; clear g9; go_at_call 73; refine (bits.specBti (((maj zs).drop 2).take 8) (w.heap.size + 1) w1.heap.size (some ⟨b, 2, none⟩) 8 (c - 2) _ (by first | exact C2.out | exact C2.out.alloc _)).mono ?_; rw [E2.out]; rintro e w' ⟨rfl, rfl⟩; have m2 := B1)
          | (go_at_call 73; refine (bits.specBti (((maj zs).drop 0).take 2) (w.heap.size + 1) w1.heap.size (some ⟨b, 0, none⟩) 2 c _ (by first | exact C1.out | exact C1.out.alloc _)).mono ?_; rw [E1.out]; rintro e w' ⟨rfl, rfl⟩; have m1 := B1))
        all_goals
         (clear C1 C2 C3 XD XA m1 m2 sl1 sl2 sl3
          have X2 := Lib.hid (show Box (w1.alloc (.cells #[.int .i64 r, .int .i64 l, .int .i64 s] 25)).drew w.heap.size 0 0 0 from (show Box (w1.alloc _) w.heap.size 0 0 0 from X1.out.below (below_box w1 _)))
          have Y2 := Lib.hid (show Box (w1.alloc (.cells #[.int .i64 r, .int .i64 l, .int .i64 s] 25)).drew w1.heap.size r l s from Box.made w1 r l s)
          have O2 := Lib.hid (own.ow_drew (OB.out.alloc (.cells #[.int .i64 r, .int .i64 l, .int .i64 s] 25)))
          have B2 := Lib.hid (own.below_drew (B1.out.alloc B1.out.size (.cells #[.int .i64 r, .int .i64 l, .int .i64 s] 25)))
          generalize hW2 : (w1.alloc (.cells #[.int .i64 r, .int .i64 l, .int .i64 s] 25)).drew = w2
          rw [hW2] at X2 Y2 O2 B2
          clear hW2 OB X1 B1
          have y0 := Y2.out.c0
          have y1 := Y2.out.c1
          have y2 := Y2.out.c2
          obtain ⟨p, hp⟩ : ∃ p, bits.par (maj zs) = p := ⟨_, rfl⟩
          have HP := Lib.hid hp
          clear hp
          by_cases hp0 : p = 0
          · subst hp0
            by_cases hv : Hv r l s
            · have HVV := Lib.hid (hv_yes hv)
              have HD := Lib.hid (show dh zs = ((r, l, s), true) by
                obtain ⟨e1, e2, e3⟩ := HRS.out
                have := dh_yes (zs := zs) ⟨HL.out, HP.out, by rw [e1, e2, e3]; exact hv⟩
                rw [e1, e2, e3] at this; exact this)
              clear hv
              go_wp2_with fail
              (with_reducible refine (bits.specPar (maj zs) _ _ (some ⟨b, 0, none⟩) 18 c _ O2.out.rd).mono ?_)
              rw [HP.out]
              rintro e w3 ⟨rfl, rfl⟩
              go_wp2_with fail
              (with_reducible refine (specHv r l s _).mono ?_)
              rw [HVV.out]
              rintro e w3 ⟨rfl, hb3⟩
              have X3 := Lib.hid (X2.out.below hb3)
              have Y3 := Lib.hid (Y2.out.below hb3)
              have B3 := Lib.hid (B2.out.trans (hb3.mono B2.out.size))
              clear hb3 y0 y1 y2
              have y0 := Y3.out.c0
              have y1 := Y3.out.c1
              have y2 := Y3.out.c2
              have z0 := X3.out.c0
              have z1 := X3.out.c1
              have z2 := X3.out.c2
              have f0 := X3.out.free 0
              have f1 := X3.out.free 1
              have f2 := X3.out.free 2
              go_wp2_with fail
              (try simp only [Exit.inBlock, Exit.then])
              refine bodyPost_ret (v := .tuple #[.agg #[.int .i64 r, .int .i64 l, .int .i64 s], .bool true]) ?_ rfl (d_make HD.out ?_)
              · rw [results_cell_tmp1 rfl]
                go_simp
              · exact (((B3.out.setCell (p := ⟨w.heap.size, 0, none⟩) (Nat.le_refl _) _).setCell (p := ⟨w.heap.size, 1, none⟩) (Nat.le_refl _) _).setCell (p := ⟨w.heap.size, 2, none⟩) (Nat.le_refl _) _)
            · have HVV := Lib.hid (hv_no hv)
              have HD := Lib.hid (show dh zs = ((0, 0, 0), false) by
                obtain ⟨e1, e2, e3⟩ := HRS.out
                exact dh_no fun g => hv (by have := g.2.2; rw [e1, e2, e3] at this; exact this))
              clear hv
              go_wp2_with fail
              (with_reducible refine (bits.specPar (maj zs) _ _ (some ⟨b, 0, none⟩) 18 c _ O2.out.rd).mono ?_)
              rw [HP.out]
              rintro e w3 ⟨rfl, rfl⟩
              go_wp2_with fail
              (with_reducible refine (specHv r l s _).mono ?_)
              rw [HVV.out]
              rintro e w3 ⟨rfl, hb3⟩
              have X3 := Lib.hid (X2.out.below hb3)
              have B3 := Lib.hid (B2.out.trans (hb3.mono B2.out.size))
              clear hb3 y0 y1 y2
              have z0 := X3.out.c0
              have z1 := X3.out.c1
              have z2 := X3.out.c2
              have f0 := X3.out.free 0
              have f1 := X3.out.free 1
              have f2 := X3.out.free 2
              go_wp2_with fail
              (try simp only [Exit.inBlock, Exit.then])
              refine bodyPost_ret (v := .tuple #[.agg #[.int .i64 0, .int .i64 0, .int .i64 0], .bool false]) ?_ rfl (d_make HD.out ?_)
              · rw [results_cell_tmp1 rfl]
                go_simp
              · exact (((B3.out.setCell (p := ⟨w.heap.size, 0, none⟩) (Nat.le_refl _) _).setCell (p := ⟨w.heap.size, 1, none⟩) (Nat.le_refl _) _).setCell (p := ⟨w.heap.size, 2, none⟩) (Nat.le_refl _) _)
          · have HD := Lib.hid (show dh zs = ((0, 0, 0), false) from dh_no fun g => hp0 (by rw [← HP.out]; exact g.2.1))
            have hp1 : (p == 0) = false := by simpa using hp0
            have z0 := X2.out.c0
            have z1 := X2.out.c1
            have z2 := X2.out.c2
            have f0 := X2.out.free 0
            have f1 := X2.out.free 1
            have f2 := X2.out.free 2
            go_wp2_with fail
            (with_reducible refine (bits.specPar (maj zs) _ _ (some ⟨b, 0, none⟩) 18 c _ O2.out.rd).mono ?_)
            rw [HP.out]
            rintro e w3 ⟨rfl, rfl⟩
            go_wp2_with fail
            (try simp only [Exit.inBlock, Exit.then])
            refine bodyPost_ret (v := .tuple #[.agg #[.int .i64 0, .int .i64 0, .int .i64 0], .bool false]) ?_ rfl (d_make HD.out ?_)
            · rw [results_cell_tmp1 rfl]
              go_simp
            · exact (((B2.out.setCell (p := ⟨w.heap.size, 0, none⟩) (Nat.le_refl _) _).setCell (p := ⟨w.heap.size, 1, none⟩) (Nat.le_refl _) _).setCell (p := ⟨w.heap.size, 2, none⟩) (Nat.le_refl _) _))
  · have HD := Lib.hid (dh_no (zs := zs) (fun g => h54 (by rw [← HL.out]; exact g.1)))
    have hn : ((n : Int) == 54) = false := by
      have : ¬ (n : Int) = 54 := by omega
      simpa using this
    clear h54
    go_enter Tryz.func38, Tryz.ntmps38
    go_wp2_with fail
    (try simp only [Exit.inBlock, Exit.then])
    refine bodyPost_ret (v := .tuple #[.agg #[.int .i64 0, .int .i64 0, .int .i64 0], .bool false]) ?_ rfl (d_make HD.out ?_)
    · rw [results_cell_tmp1 rfl]
      go_simp
    · (repeat' (first | exact Below.refl _ _ | refine Below.setCell ?_ (by simp) _ | refine Below.alloc ?_ (by simp <;> omega) _))
end Go.Proofs.YtdelpepepbkjmaaGreatDoor.phs
end

section
namespace Go.Proofs.YtdelpepepbkjmaaGreatDoor.bits
open Go.RowKit Go.Shelf sl harn bm rng

attribute [local go_sem] Oper.semAt_some

/-- A number that fits. -/
abbrev I64 := { x : Int // (Lit.int .i64 x).wf = true }
def upto (f : Nat → I64) (k : Nat) : List I64 := (List.range k).map f
theorem upto_succ (f : Nat → I64) (k : Nat) : upto f (k + 1) = upto f k ++ [f k] := by simp [upto, List.range_succ]
theorem upto_length (f : Nat → I64) (k : Nat) : (upto f k).length = k := by simp [upto]
theorem getD_wf {l : List Int} (h : Wf .i64 l) (i : Nat) : (Lit.int .i64 (l.getD i 0)).wf = true := by
  rcases Nat.lt_or_ge i l.length with hi | hi
  · exact h.getD hi
  · rw [List.getD_eq_getElem?_getD, List.getElem?_eq_none hi]; exact WalkArith.wf_i64 (by simp)
/-- Bit i of the bytes. -/
def sq (zs : List Int) (i : Nat) : I64 := ⟨(btb zs).getD i 0, getD_wf (btb_wf zs) i⟩
theorem sq_map (zs : List Int) (n : Nat) (h : zs.length = n) : (upto (sq zs) (8 * n)).map (fun x : I64 => Value.int .i64 x.1) = (btb zs).map (Value.int .i64) := by
  apply List.ext_getElem
  · simp [upto, btb_len, h]
  · intro i h1 h2
    have : i < (btb zs).length := by simpa using h2
    simp [upto, sq, this]
theorem btb_at (zs : List Int) {k j : Nat} (hk : k < zs.length) (hj : j < 8) : (btb zs).getD (8 * k + j) 0 = zs.getD k 0 / 2 ^ j % 2 := by
  have e : zs = zs.take k ++ (zs.getD k 0 :: zs.drop (k + 1)) := by
    rw [List.getD_eq_getElem?_getD, List.getElem?_eq_getElem hk, Option.getD_some, ← List.drop_eq_getElem_cons hk, List.take_append_drop]
  have e2 : btb zs = btb (zs.take k) ++ (dig (zs.getD k 0) 8 ++ btb (zs.drop (k + 1))) := by
    conv => lhs; rw [e]
    rw [btb_append]; rfl
  rw [e2, List.getD_eq_getElem?_getD, List.getElem?_append_right (by rw [btb_len]; simp; omega), btb_len, List.length_take, Nat.min_eq_left (by omega), Nat.add_sub_cancel_left,
    List.getElem?_append_left (by rw [dig_len]; exact hj), ← List.getD_eq_getElem?_getD, dig_at _ hj]
theorem low1u {y : Int} (h0 : 0 ≤ y) (h1 : y ≤ 255) : bits .and .u8 y 1 = y % 2 := by
  obtain ⟨p, rfl⟩ := Int.eq_ofNat_of_zero_le h0
  show IntKind.u8.wrap ((BitVec.ofInt 8 (p : Int) &&& BitVec.ofInt 8 1).toNat : Int) = _
  have e1 : (BitVec.ofInt 8 (p : Int)).toNat = p := by rw [BitVec.ofInt_natCast, BitVec.toNat_ofNat]; omega
  have e2 : (BitVec.ofInt 8 1).toNat = 2 ^ 1 - 1 := by decide
  rw [BitVec.toNat_and, e1, e2, Nat.and_two_pow_sub_one_eq_mod, IntWalk.u8_in _ (by omega)]
  omega
theorem div_in {x : Int} (h0 : 0 ≤ x) (h1 : x ≤ 255) (j : Nat) : 0 ≤ x / 2 ^ j ∧ x / 2 ^ j ≤ 255 := by
  have hp := pow_pos j
  refine ⟨Int.ediv_nonneg h0 (by omega), ?_⟩
  have := Int.ediv_le_self (2 ^ j) h0
  omega

set_option maxRecDepth 100000 in
set_option maxHeartbeats 4000000 in
/-- The iterator's closure: every bit in order, for every loop body that keeps what lay below n₀. -/
theorem bits1 (n : Nat) (hn : 1 ≤ n) (l Bs n₀ lo len cap : Nat) (A : Option Addr) (zs : List Int) (J Jx : List I64 → World → Prop)
    (hY : ∀ pre (x : I64) W, J pre W → pre.length < 8 * len → YieldAt Fence.wide (n - 1) Tryz.prog l #[.int .i64 x.1] W fun e W' =>
      (e = .returned (.bool true) ∧ J (pre ++ [x]) W' ∧ Below n₀ W W') ∨ (e = .returned (.bool false) ∧ Jx (pre ++ [x]) W'))
    (W : World) (hBs : W.cell? ⟨Bs, 0, none⟩ = some (.slice A len cap)) (hr : Rd .u8 W lo n₀ A len cap zs) (h0 : J [] W) :
    CallsIn Fence.wide n Tryz.prog 122 #[.func (.yield l) #[] #[], .pointer (some ⟨Bs, 0, none⟩)] W fun e W' => (∃ v, e = .returned v) ∧
      ((∃ ys, ys = upto (sq zs) (8 * len) ∧ J ys W') ∨ (∃ pre, True ∧ Jx pre W')) := by
  have hb := hr.cap_
  have HR := Lib.hid hr
  clear hr
  refine callsIn_of_wp Tryz.func122 rfl trivial ?_ rfl
  simp only [Tryz.ntmps122, List.size_toArray, List.length_cons, List.length_nil, Nat.reduceAdd, Nat.reduceSub, Array.replicate_succ, Array.replicate_zero, List.push_toArray, List.append_toArray, List.nil_append, List.cons_append]
  gi_wp2
  gi_loopw [8] (fun i wr => ∃ k : Nat, k ≤ len ∧ i = .int .i64 k ∧ J (upto (sq zs) (8 * k)) wr ∧ Below n₀ W wr)
    (fun i _ => len - (intOf i).toNat)
  case atStart => exact ⟨0, Nat.zero_le _, rfl, h0, Below.refl _ _⟩
  case round =>
    obtain ⟨k, hk, rfl, hJs, hnx⟩ := hrel
    have HJ := Lib.hid hJs
    have HN := Lib.hid hnx
    clear hJs hnx
    by_cases hlt : k < len
    · obtain ⟨b, off, rfl, h1, h2, hc⟩ := (HR.out.same HN.out.size fun b _ hlt => HN.out.block b hlt).at_ hlt
      have hx01 : 0 ≤ zs.getD k 0 ∧ zs.getD k 0 ≤ 255 := by
        have h1 := HR.out.wf.getD (i := k) (by have := HR.out.len; omega)
        have := bounds_u8 h1; omega
      obtain ⟨x, hx⟩ : ∃ x, zs.getD k 0 = x := ⟨_, rfl⟩
      rw [hx] at hc hx01
      have HX := Lib.hid hx
      obtain ⟨hx0, hx1⟩ := hx01
      have hlt2 : (k : Int) < len := by omega
      clear hx
      gi_wp2
      gi_loopw [12] (fun i wr => ∃ j : Nat, j ≤ 8 ∧ i = .int .i64 j ∧ J (upto (sq zs) (8 * k + j)) wr ∧ Below n₀ W wr)
        (fun i _ => 8 - (intOf i).toNat)
      case atStart => exact ⟨0, Nat.zero_le _, rfl, HJ.out, HN.out⟩
      case round =>
        obtain ⟨j, hj, rfl, hJs, hnx⟩ := hrel
        have HJ2 := Lib.hid hJs
        have HN2 := Lib.hid hnx
        clear hJs hnx
        by_cases hlt3 : j < 8
        · have hlt4 : (j : Int) < 8 := by omega
          have hbit : bits .and .u8 (x / 2 ^ j) 1 = (sq zs (8 * k + j)).1 := by
            rw [low1u (div_in hx0 hx1 j).1 (div_in hx0 hx1 j).2]
            show _ = (btb zs).getD (8 * k + j) 0
            rw [btb_at zs (by rw [HR.out.len]; exact hlt) hlt3, HX.out]
          have hs01 : 0 ≤ (sq zs (8 * k + j)).1 ∧ (sq zs (8 * k + j)).1 ≤ 1 := by
            rw [← hbit, low1u (div_in hx0 hx1 j).1 (div_in hx0 hx1 j).2]; omega
          obtain ⟨fn, tmps, assign, body, hy, hR⟩ := hY _ (sq zs (8 * k + j)) _ HJ2.out (by rw [upto_length]; omega)
          have HS := Lib.hid (upto_succ (sq zs) (8 * k + j))
          generalize sq zs (8 * k + j) = s at *
          obtain ⟨v, hv⟩ : ∃ v, s.1 = v := ⟨_, rfl⟩
          rw [hv] at hbit hs01 hy
          have HR2 := Lib.hid hR
          clear hR hv
          gi_wp2
          refine HR2.out.mono ?_
          rintro e W3 (⟨rfl, hJ3, hk3⟩ | ⟨rfl, hJx3⟩)
          · have HJ3 := Lib.hid hJ3
            have HK3 := Lib.hid hk3
            clear hJ3 hk3
            gi_wp2
            go_roundw
            case rel => exact ⟨j + 1, by omega, by simp, by rw [← Nat.add_assoc, HS.out]; exact HJ3.out, HN2.out.trans HK3.out⟩
            case measure => simp [intOf]; omega
          · have HJx := Lib.hid hJx3
            clear hJx3
            gi_wp2
            refine bodyPost_ret (results_none rfl _ _ _) rfl ?_
            exact ⟨⟨_, rfl⟩, .inr ⟨_, trivial, HJx.out⟩⟩
        · have hlt4 : ¬ (j : Int) < 8 := by omega
          obtain rfl : j = 8 := by omega
          gi_wp2
          go_roundw
          case rel => exact ⟨k + 1, by omega, by simp, HJ2.out, HN2.out⟩
          case measure => simp [intOf]; omega
    · have hlt2 : ¬ (k : Int) < len := by omega
      gi_wp2
      go_end0
      obtain rfl : k = len := by omega
      exact ⟨⟨_, rfl⟩, .inl HJ.out⟩

set_option maxHeartbeats 1000000 in
/-- The iterator is made: the bytes' slice value is boxed. -/
theorem bitsOf_in (n : Nat) (A : Option Addr) (len cap : Nat) (w : World) :
    CallsIn Fence.wide n Tryz.prog 93 #[.slice A len cap] w fun e w' => e = .returned (.func (.func 122) #[] #[.pointer (some ⟨w.heap.size, 0, none⟩)]) ∧ w' = w.alloc (.cells #[.slice A len cap] 22) := by
  refine callsIn_of_wp Tryz.func93 rfl trivial ?_ rfl
  simp only [Tryz.ntmps93, List.size_toArray, List.length_cons, List.length_nil, Nat.reduceAdd, Nat.reduceSub, Array.replicate_succ, Array.replicate_zero, List.push_toArray, List.append_toArray, List.nil_append, List.cons_append]
  gi_wp2
  go_ret
  exact ⟨rfl, rfl⟩
theorem bits_stops (n : Nat) (hn : 1 ≤ n) (Bs n₀ lo len cap : Nat) (A : Option Addr) (zs : List Int) (w : World) (hBs : Bs < w.heap.size) (hn₀ : n₀ ≤ w.heap.size)
    (hc : w.cell? ⟨Bs, 0, none⟩ = some (.slice A len cap)) (hr : Rd .u8 w lo n₀ A len cap zs) :
    SeqStopsK Fence.wide n Tryz.prog 122 #[.pointer (some ⟨Bs, 0, none⟩)] (fun x : I64 => #[Value.int .i64 x.1]) (Below n₀) (fun ys => ys = upto (sq zs) (8 * len)) (fun _ => True) (8 * len) w := fun l J Jx W hW _ _ hY h0 =>
  bits1 n hn l Bs n₀ lo len cap A zs J Jx hY W ((hW.cell (p := ⟨Bs, 0, none⟩) hBs).trans hc) (hr.same hW.size fun b _ hlt => hW.block b (by omega)) h0

set_option maxRecDepth 100000 in
set_option maxHeartbeats 4000000 in
theorem implBtb_in (n : Nat) (hn : 3 ≤ n) (zs : List Int) (lo len cap : Nat) (A : Option Addr) (w : World) (hr : Rd .u8 w lo w.heap.size A len cap zs) (hl : len ≤ 67108864) :
    CallsIn Fence.wide n Tryz.prog 57 #[.slice A len cap] w fun e W' => ∃ v, e = .returned v ∧ W'.ownsRow w.heap.size 3 1 v (btb zs).length ((btb zs).map (Value.int .i64)) ∧ Below w.heap.size w W' := by
  have h1 : 1 ≤ n := by omega
  have hlen := hr.len
  have HR := Lib.hid hr
  clear hr
  obtain ⟨i0, hi, hz0, hz1, hz2⟩ := info_parts intInfo
  refine callsIn_of_wp_marks Tryz.func57 rfl trivial ?_ rfl
  simp only [Tryz.ntmps57, List.size_toArray, List.length_cons, List.length_nil, Nat.reduceAdd, Nat.reduceSub, Array.replicate_succ, Array.replicate_zero, List.push_toArray, List.append_toArray, List.nil_append, List.cons_append]
  gi_wp2_with fail
  refine ⟨trivial, (bitsOf_in (n - 1) _ _ _ _).mono ?_⟩
  rintro e w' ⟨rfl, rfl⟩
  gi_wp2_with fail
  have bO := Boxed.new (w.alloc (.cells #[] 3)) 28 (.slice (some ⟨w.heap.size, 0, none⟩) 0 0)
  have bN := Boxed.new ((w.alloc (.cells #[] 3)).alloc (.cells #[.slice (some ⟨w.heap.size, 0, none⟩) 0 0] 28)) 22 (.slice A len cap)
  simp only [World.size_alloc] at bO bN
  have hO0 := (((Ow.empty 3 .i64 w).alloc (.cells #[.slice (some ⟨w.heap.size, 0, none⟩) 0 0] 28)).alloc (.cells #[.slice A len cap] 22)).1
  have hB0 : Below w.heap.size w (((w.alloc (.cells #[] 3)).alloc (.cells #[.slice (some ⟨w.heap.size, 0, none⟩) 0 0] 28)).alloc (.cells #[.slice A len cap] 22)) :=
    (((Below.refl _ w).alloc (Nat.le_refl _) _).alloc (by simp) _).alloc (by simp; omega) _
  refine wpIn_rangeFunc_ownG rfl h1 (gf := 122) (lb := #[.pointer (some ⟨w.heap.size + 1 + 1, 0, none⟩)]) rfl trivial (enters_of Tryz.func122 (by kernel_rfl) rfl)
    (bits_stops (n - 1) (by omega) (w.heap.size + 1 + 1) w.heap.size lo len cap A zs _ (by simp) (by simp; omega) bN.cell (HR.out.same hB0.size fun b _ hlt => hB0.block b hlt)) belowK_t (belowK_b (by simp; omega)) (Below.refl _ _) (fun _ => rfl)
    (fun pre W => (∃ v, Boxed W (w.heap.size + 1) 28 v ∧ W.ownsRow w.heap.size 3 1 v pre.length (pre.map (fun x : I64 => Value.int .i64 x.1)) ∧ True) ∧ Below w.heap.size w W)
    (fun _ _ _ => False)
    (OwnFrom.and (Own.from (holdsRow_own w.heap.size (w.heap.size + 1) 28 3 1 (fun pre : List I64 => pre.length) (fun pre : List I64 => pre.map (fun x : I64 => Value.int .i64 x.1)) (fun _ _ => True)) _) (ownFrom_below (Nat.le_refl _) (by simp; omega)))
    (fun _ _ _ _ _ hs _ _ => hs)
    ⟨⟨_, bO.alloc _, hO0, trivial⟩, hB0⟩
    (fun x => { tmps := #[.slice A len cap, undef, .slice none 0 0, .pointer (some ⟨w.heap.size + 1, 0, none⟩), .int .i64 x.1, .slice (some ⟨w.heap.size, 0, none⟩) 0 0, .slice A len cap, .func (.func 122) #[] #[.pointer (some ⟨w.heap.size + 1 + 1, 0, none⟩)], .int .i64 x.1, undef, undef, undef, undef, undef], defers := [] }) ?assign ?body ?done ?stop
  case assign =>
    intro l x W K hK
    gi_wp2
    exact hK
  case body =>
    rintro l pre x W ⟨⟨v, hv, hrow, _⟩, hB⟩ hlt
    have hc := hv.cell
    gi_wp2_with (gi_at_builtin; refine wpListIn_append_own _ rfl _ _ 28 rfl w.heap.size 3 i0 (.int .i64 0) 1 8 Tryz.underlying28 hi hz0 hz1 hz2 rfl (by decide) _ _ _ rfl (hrow.alloc _) ⟨W.heap.size, 0, none⟩ 1 1 [.int .i64 x.1] rfl rfl (cell_one_new _ _ _) (by simp [Value.oneCell']) (by unfold maxLen; omega) (by omega) (by have := hB.size; simp; omega) ?_; intro v' w1 hown' hgrow _; obtain ⟨g', cap', rfl⟩ := ownsRow_succ hown'; obtain ⟨hv1, hv2, hr2, hk2, hb2⟩ := hv.appended (by decide) hrow hB.size (by omega) hown' hgrow; have hc1 := hv1.cell; have hf1 := hv1.frozen)
    exact ⟨hk2.from _, hb2, ⟨_, hv2, by simpa using hr2, trivial⟩, hB.trans hb2⟩
  case done =>
    rintro D ys W hD rfl ⟨⟨v, hv, hrow, _⟩, hB⟩ hK
    have hc := hv.cell
    rw [sq_map zs len hlen, upto_length] at hrow
    have hrow2 : W.ownsRow w.heap.size 3 1 v (btb zs).length ((btb zs).map (Value.int .i64)) := by rw [btb_len, hlen]; exact hrow
    gi_wp2
    refine ⟨by simp, .inl ⟨_, _, rfl, run_takeDeferred hK, ?_⟩⟩
    exact ⟨_, results_tmp rfl _ _ _, v, rfl, ownsRow_putObj hrow2 _ hK rfl, hB.trans (belowK_b (w := w) (Nat.le_refl _) W D _ _ (by simp at hD; omega) hK rfl rfl)⟩
  case stop =>
    rintro D c pre W _ _ h _
    exact h.elim
theorem implBtb (zs : List Int) (lo hi : Nat) (A : Option Addr) (n cap : Nat) (w : World) (h : Rd .u8 w lo hi A n cap zs) (hn : n ≤ 67108864) :
    Calls Tryz.prog 57 #[.slice A n cap] w (SlPost 3 .i64 w (btb zs)) := by
  refine (callsIn_wide (n := 3)).1 ((implBtb_in 3 (by omega) zs 0 n cap A w h.wide hn).mono ?_)
  rintro e w1 ⟨v, rfl, ho, hb⟩
  obtain ⟨B, c, rfl, ho2⟩ := Ow.of_own ho (btb_wf zs)
  exact ⟨_, _, _, rfl, ho2, hb⟩
end Go.Proofs.YtdelpepepbkjmaaGreatDoor.bits
end

section
namespace Go.Proofs.YtdelpepepbkjmaaGreatDoor.bits
open Go.RowKit sl harn bm rng

theorem btb_pos (zs : List Int) {k j : Nat} (hk : k < zs.length) (hj : j < 8) : (btb zs).getD (8 * k + j) 0 = zs.getD k 0 / 2 ^ j % 2 := by
  have e : zs = zs.take k ++ (zs.getD k 0 :: zs.drop (k + 1)) := by
    rw [List.getD_eq_getElem?_getD, List.getElem?_eq_getElem hk, Option.getD_some, ← List.drop_eq_getElem_cons hk, List.take_append_drop]
  have e2 : btb zs = btb (zs.take k) ++ (dig (zs.getD k 0) 8 ++ btb (zs.drop (k + 1))) := by
    conv => lhs; rw [e]
    rw [btb_append]; rfl
  rw [e2, List.getD_eq_getElem?_getD, List.getElem?_append_right (by rw [btb_len]; simp; omega), btb_len, List.length_take, Nat.min_eq_left (by omega), Nat.add_sub_cancel_left,
    List.getElem?_append_left (by rw [dig_len]; exact hj), ← List.getD_eq_getElem?_getD, dig_at _ hj]
set_option maxRecDepth 100000 in
set_option maxHeartbeats 4000000 in
theorem specBtb (zs : List Int) (lo hi : Nat) (A : Option Addr) (n cap : Nat) (w : World) (h : Rd .u8 w lo hi A n cap zs) (hn : n ≤ 67108864) :
    Calls Tryz.prog 111 #[.slice A n cap] w (SlPost 3 .i64 w (btb zs)) := by
  have hb := h.cap_
  have HR := Lib.hid h
  clear h
  obtain ⟨i0, hi0, hz0, hz1, hz2⟩ := info_parts intInfo
  have HZ := Lib.hid (And.intro hi0 (And.intro hz0 (And.intro hz1 hz2)))
  clear hz2 hz1 hz0 hi0
  go_enter Tryz.func111, Tryz.ntmps111
  go_wp2
  go_loopw [3, 4] (fun v i wr => ∃ k : Nat, i = .int .i64 k ∧ k ≤ n ∧ Gath 3 .i64 w wr (btb zs) (8 * k) v) (fun _ i _ => n - (intOf i).toNat)
  case atStart => exact ⟨0, rfl, by omega, Gath.start _ _ _ _⟩
  case round =>
    obtain ⟨k, rfl, hk, C, c, rfl, ho, hb⟩ := hrel
    have HO := Lib.hid ho
    have HB := Lib.hid hb
    clear ho hb
    by_cases hlt : k < n
    · have hlt2 : (k : Int) < n := by omega
      go_wp2
      go_loopw [3, 5] (fun v i wr => ∃ j : Nat, i = .int .i64 j ∧ j ≤ 8 ∧ Gath 3 .i64 w wr (btb zs) (8 * k + j) v) (fun _ i _ => 8 - (intOf i).toNat)
      case atStart => exact ⟨0, rfl, by omega, _, _, rfl, HO.out, HB.out⟩
      case round =>
        clear HO HB
        obtain ⟨j, rfl, hj, C, c, rfl, ho, hb⟩ := hrel
        have HO := Lib.hid ho
        have HB := Lib.hid hb
        clear ho hb
        by_cases hlt3 : j < 8
        · have hlt4 : (j : Int) < 8 := by omega
          obtain ⟨b, off, rfl, h1, h2, hc⟩ := (HR.out.below HB.out).at_ hlt
          have hx01 : 0 ≤ zs.getD k 0 ∧ zs.getD k 0 ≤ 255 := by
            have h1 := HR.out.wf.getD (i := k) (by have := HR.out.len; omega)
            have := bounds_u8 h1; omega
          have hlen := HR.out.len
          have hx := btb_pos zs (k := k) (by omega) hlt3
          obtain ⟨x, hxe⟩ : ∃ x, zs.getD k 0 = x := ⟨_, rfl⟩
          rw [hxe] at hc hx01 hx
          obtain ⟨hx0, hx1⟩ := hx01
          have hbit := low1 (x / 2 ^ j)
          obtain ⟨z, hz⟩ : ∃ z, x / 2 ^ j % 2 = z := ⟨_, rfl⟩
          rw [hz] at hbit hx
          have HX := Lib.hid (show (btb zs).take (8 * k + j + 1) = (btb zs).take (8 * k + j) ++ [z] by rw [take_one (by rw [btb_len]; omega), hx])
          have HV := Lib.hid (show (Lit.int .i64 z).wf = true by rw [← hz]; exact WalkArith.wf_i64 (by omega))
          clear hx hxe hz
          go_wp2_with (at_builtin; refine wpList_app _ rfl _ _ 28 rfl 3 i0 _ .i64 Tryz.underlying28 HZ.out.1 HZ.out.2.1 HZ.out.2.2.1 (by rw [HZ.out.2.2.2]; omega) rfl rfl rfl (HO.out.alloc _) (Rd.one .i64 _ _ _ HV.out) (by omega) (by have := HB.out.size; simp; omega) ?_; intro A1 cap1 w1 ho hb1; have HO1 := Lib.hid ho; have HB1 := Lib.hid ((HB.out.alloc HB.out.size _).trans hb1); clear ho hb1)
          go_roundw
          case rel => exact ⟨j + 1, by go_num, by omega, A1, cap1, rfl, by rw [← Nat.add_assoc, HX.out]; exact HO1.out, HB1.out⟩
          case measure => simp [intOf]; omega
        · have hlt4 : ¬ (j : Int) < 8 := by omega
          obtain rfl : j = 8 := by omega
          go_wp2
          go_roundw
          case rel => exact ⟨k + 1, by go_num, by omega, C, c, rfl, HO.out, HB.out⟩
          case measure => simp [intOf]; omega
    · have hlt2 : ¬ (k : Int) < n := by omega
      go_wp2
      go_ret
      obtain rfl : k = n := by omega
      exact Gath.done HO.out HB.out (by rw [btb_len, HR.out.len])

end Go.Proofs.YtdelpepepbkjmaaGreatDoor.bits
end

section
namespace Go.Proofs.YtdelpepepbkjmaaGreatDoor.sl
open Go.RowKit

/-- A slice that lies outside the blocks c1 to below c2. -/
def Out (c1 c2 : Nat) (A : Option Addr) : Prop := ∀ g o, A = some ⟨g, o, none⟩ → g < c1 ∨ c2 ≤ g
/-- Those blocks are as before. -/
def Spares (c1 c2 : Nat) (w w' : World) : Prop := w.heap.size ≤ w'.heap.size ∧ ∀ q, c1 ≤ q → q < c2 → w'.heap[q]? = w.heap[q]?
theorem Spares.refl (c1 c2 : Nat) (w : World) : Spares c1 c2 w w := ⟨Nat.le_refl _, fun _ _ _ => rfl⟩
theorem Spares.trans {c1 c2 : Nat} {w w' w'' : World} (h : Spares c1 c2 w w') (g : Spares c1 c2 w' w'') : Spares c1 c2 w w'' := ⟨Nat.le_trans h.1 g.1, fun q h1 h2 => (g.2 q h1 h2).trans (h.2 q h1 h2)⟩
theorem Spares.below {c1 c2 B : Nat} {w w' : World} (h : Below B w w') (hc : c2 ≤ B) : Spares c1 c2 w w' := ⟨h.size, fun q _ h2 => h.block q (by omega)⟩
theorem Spares.alloc {c1 c2 : Nat} {w w' : World} (h : Spares c1 c2 w w') (hc : c2 ≤ w'.heap.size) (o : Obj) : Spares c1 c2 w (w'.alloc o) := h.trans (Spares.below ((Below.refl w'.heap.size w').alloc (Nat.le_refl _) o) hc)
theorem Rd.spared {k : IntKind} {w w' : World} {lo hi n cap : Nat} {A : Option Addr} {zs : List Int} (h : Rd k w lo hi A n cap zs) {c1 c2 : Nat} (hs : Spares c1 c2 w w') (h1 : c1 ≤ lo) (h2 : hi ≤ c2) : Rd k w' lo hi A n cap zs :=
  h.same hs.1 fun b g1 g2 => hs.2 b (by omega) (by omega)
theorem app_out {P : Program} (t ty E : TypeId) (i : TypeInfo) (z : Value) (k : IntKind) (h1 : P.underlying t = some (.slice E)) (h2 : P.info? E = some i) (h3 : i.zero = some z) (h4 : i.size = 1) (h5 : i.bytes ≤ 8) (h6 : z.cells.size = 1)
    {w : World} {lo hi lo2 hi2 n cap m c : Nat} {A : Option Addr} {ad : Addr} {zs ys : List Int} (ho : Ow E k w lo hi A n cap zs) (hr : Rd k w lo2 hi2 (some ad) m c ys) (hn : n + m ≤ 1073741824) (hlo : lo ≤ w.heap.size)
    {c1 c2 : Nat} (hA : Out c1 c2 A) (hc : c2 ≤ w.heap.size) :
    ∃ A' cap' w', (Builtin.append_ #[t, t] ty #[.slice A n cap, .slice (some ad) m c]).run P w = .ok (.slice A' (n + m) cap') w' ∧ Ow E k w' lo w'.heap.size A' (n + m) cap' (zs ++ ys) ∧ Below lo w w' ∧ Out c1 c2 A' ∧ Spares c1 c2 w w' := by
  have hwf : Wf k (zs ++ ys) := ho.wf.append hr.wf
  have hcells : ∀ j u, (ys.map (Value.int k))[j]? = some u → w.cell? (ad.add j) = some u := by
    intro j u hu
    have hj : j < ys.length := by
      have := (List.getElem?_eq_some_iff.1 hu).1
      simpa using this
    have hl := hr.len
    obtain ⟨b, off, e, _, _, hc⟩ := hr.at_ (i := j) (by omega)
    injection e with e
    subst e
    have e2 : (⟨b, off, none⟩ : Addr).add j = ⟨b, off + j, none⟩ := by unfold Addr.add; split <;> simp_all
    rw [e2, hc]
    rw [List.getElem?_map, List.getElem?_eq_getElem hj] at hu
    rw [List.getD_eq_getElem?_getD, List.getElem?_eq_getElem hj]
    simpa using hu
  have hb8 : (n + m) * i.bytes ≤ 140737488355328 := by
    have := Nat.mul_le_mul hn h5
    omega
  obtain ⟨v', w', hrun, g1, g2, _, g3⟩ := run_append_own_at (P := P) w lo t ty E i z 1 i.bytes h1 h2 h3 h4 rfl h6 (by omega) _ n _ ho.1 ad m c (ys.map (Value.int k)) (by simpa using hr.len) hcells (one_cells k ys) (by unfold maxLen; omega) hb8 hlo
  rw [← List.map_append] at g1
  obtain ⟨A', cap', rfl, hO⟩ := Ow.of_own g1 hwf
  have hg := (Below.refl lo w).grown g2 hlo fun q hq => by
    rcases ho.form with ⟨rfl, _⟩ | ⟨g, cur, rfl, hg, _⟩
    · simp [Value.ownBlock] at hq
    · simp [Value.ownBlock] at hq; omega
  refine ⟨A', cap', w', hrun, hO, hg, fun g o e => ?_, hg.size, fun q q1 q2 => g2.block q (by omega) ?_⟩
  · subst e
    rcases g3 with g3 | g3
    · cases A with
      | none => simp [Value.ownBlock] at g3
      | some a =>
        simp only [Value.ownBlock, Option.some.injEq] at g3
        rcases ho.form with ⟨h, _⟩ | ⟨b, cur, h, _⟩
        · cases h
        · injection h with h; subst h
          simp only at g3
          subst g3
          exact hA _ _ rfl
    · simp only [Value.ownBlock, Option.some.injEq] at g3
      right; omega
  · intro e
    cases A with
    | none => simp [Value.ownBlock] at e
    | some a =>
      simp only [Value.ownBlock, Option.some.injEq] at e
      rcases ho.form with ⟨h, _⟩ | ⟨b, cur, h, _⟩
      · cases h
      · injection h with h; subst h
        simp only at e
        subst e
        have := hA _ _ rfl
        omega
theorem wpList_app_out {P : Program} (w : World) {ops : Array Oper} {rest : List Oper} {o : Oper} {a : Act} {Q : Exit → Act → World → Prop} (hg : o.guard = none) (s x : Operand) (t : TypeId)
    (hop : o.op = .call { callee := .builtin .append, args := #[s, x], argTypes := #[t, t] })
    (E : TypeId) (i : TypeInfo) (z : Value) (k : IntKind) (h1 : P.underlying t = some (.slice E)) (h2 : P.info? E = some i) (h3 : i.zero = some z) (h4 : i.size = 1) (h5 : i.bytes ≤ 8) (h6 : z.cells.size = 1)
    {lo hi lo2 hi2 n cap m c : Nat} {A : Option Addr} {ad : Addr} {zs ys : List Int} (hs : a.eval s = .slice A n cap) (hx : a.eval x = .slice (some ad) m c) (ho : Ow E k w lo hi A n cap zs) (hr : Rd k w lo2 hi2 (some ad) m c ys) (hn : n + m ≤ 1073741824) (hlo : lo ≤ w.heap.size)
    (c1 c2 : Nat) (hA : Out c1 c2 A) (hc : c2 ≤ w.heap.size)
    (hK : ∀ A' cap' w', Ow E k w' lo w'.heap.size A' (n + m) cap' (zs ++ ys) → Below lo w w' → Out c1 c2 A' → Spares c1 c2 w w' → wpList P ops Q rest (a.put o.dst (.slice A' (n + m) cap')) w') : wpList P ops Q (o :: rest) a w := by
  refine wpList_plain hg fun K hK' => ?_
  obtain ⟨A', cap', w', hrun, g1, g2, g3, g4⟩ := app_out (P := P) t o.type E i z k h1 h2 h3 h4 h5 h6 ho hr hn hlo hA hc
  unfold Oper.wp execOp
  simp only [hop, resolve, invoke, builtin, Sem.run_bind, Sem.run_pure, Result.andThen_ok, List.map_toArray, List.map_cons, List.map_nil, hs, hx, hrun]
  exact hK' _ _ (hK A' cap' w' g1 g2 g3 g4)
end Go.Proofs.YtdelpepepbkjmaaGreatDoor.sl
end

section
namespace Go.Proofs.YtdelpepepbkjmaaGreatDoor.cvs
open Go.RowKit sl harn bm rng cvm cat

theorem cell_at {w : World} {b i : Nat} {cs : Array Value} {t : TypeId} {v : Value} (h : w.heap[b]? = some (.cells cs t (0, 0))) (hi : cs[i]? = some v) : w.cell? ⟨b, i, none⟩ = some v := by simp [World.cell?, h, hi]
def pair (A : Option Addr) (n cap : Nat) (zs : List Int) (B : Option Addr) (m c : Nat) (ys : List Int) : List Piece := [⟨A, n, cap, zs⟩, ⟨B, m, c, ys⟩]
theorem pair_flat (A : Option Addr) (n cap : Nat) (zs : List Int) (B : Option Addr) (m c : Nat) (ys : List Int) : flat (pair A n cap zs B m c ys) = zs ++ ys := by simp [flat, pair]
theorem pair_tot (A : Option Addr) (n cap : Nat) (zs : List Int) (B : Option Addr) (m c : Nat) (ys : List Int) : tot (pair A n cap zs B m c ys) = n + m := by simp [tot, pair]
theorem pair_lie {w : World} {lo hi n cap lo2 hi2 m c : Nat} {A B : Option Addr} {zs ys : List Int} (h : Rd .i64 w lo hi A n cap zs) (g : Rd .i64 w lo2 hi2 B m c ys) (E : TypeId) :
    Pieces (w.alloc (.cells #[.slice A n cap, .slice B m c] E)) (some ⟨w.heap.size, 0, none⟩) 2 (pair A n cap zs B m c ys) := by
  refine ⟨rfl, fun j s hj => ?_⟩
  have hb : ∀ j v, (#[Value.slice A n cap, .slice B m c] : Array Value)[j]? = some v →
      (w.alloc (.cells #[.slice A n cap, .slice B m c] E)).cell? ⟨w.heap.size, 0 + j, none⟩ = some v := fun j v hv => by
    rw [Nat.zero_add]
    exact cell_at (heap_alloc_new w _) hv
  rcases j with _ | _ | j
  · injection hj with hj; subst hj
    exact ⟨⟨_, 0, rfl, by simp, hb 0 _ rfl⟩, (h.alloc _).wide⟩
  · injection hj with hj; subst hj
    exact ⟨⟨_, 0, rfl, by simp, hb 1 _ rfl⟩, (g.alloc _).wide⟩
  · simp [pair] at hj
theorem Rd.two (k : IntKind) (E : TypeId) (w : World) (x y : Int) (hx : (Lit.int k x).wf = true) (hy : (Lit.int k y).wf = true) : Rd k (w.alloc (.cells #[.int k x, .int k y] E)) w.heap.size (w.heap.size + 1) (some ⟨w.heap.size, 0, none⟩) 2 2 [x, y] :=
  ⟨rfl, by omega, by unfold maxLen; omega, by simp, fun z hz => by
    rcases List.mem_cons.1 hz with rfl | hz
    · exact hx
    · have : z = y := by simpa using hz
      rw [this]; exact hy, fun _ => ⟨_, 0, rfl, Nat.le_refl _, by omega, fun i hi => by
    have : i = 0 ∨ i = 1 := by omega
    rcases this with rfl | rfl <;> simp⟩⟩
theorem made_eq (v : Value) : madeCells #[v] 2 = #[v, v] := by
  apply Array.ext
  · rw [size_madeCells]; rfl
  · intro i h1 h2
    have : i = 0 ∨ i = 1 := by simp at h2; omega
    rcases this with rfl | rfl <;> simp [madeCells, Nat.mod_one]
theorem made_two (E : TypeId) (w : World) : Rd .i64 (w.alloc (.cells (madeCells #[.int .i64 0] 2) E)) w.heap.size (w.heap.size + 1) (some ⟨w.heap.size, 0, none⟩) 2 2 [0, 0] := by
  rw [made_eq]; exact Rd.two .i64 E w 0 0 (by decide) (by decide)
/-- The symbols gathered so far. -/
def Enc (w wr : World) (L : List Int) (k : Nat) (v : Value) : Prop := ∃ A c, v = .slice A (2 * k) c ∧ Ow 3 .i64 wr w.heap.size wr.heap.size A (2 * k) c (cw 0 (L.take k)) ∧ Below w.heap.size w wr
/-- The same, and that the symbols lie outside the blocks c1 to below c2. -/
def EncO (w wr : World) (L : List Int) (c1 c2 : Nat) (k : Nat) (v : Value) : Prop := ∃ A c, v = .slice A (2 * k) c ∧ Ow 3 .i64 wr w.heap.size wr.heap.size A (2 * k) c (cw 0 (L.take k)) ∧ Below w.heap.size w wr ∧ Out c1 c2 A
theorem out_at {c1 c2 g o : Nat} (h : g < c1) : Out c1 c2 (some ⟨g, o, none⟩) := fun _ _ e => by injection e with e; injection e with e _; omega
theorem bit_wf {x : Int} (h : 0 ≤ x ∧ x ≤ 1) : (Lit.int .i64 x).wf = true := WalkArith.wf_i64 (by omega)
set_option maxRecDepth 100000 in
set_option maxHeartbeats 4000000 in
theorem implCv (zs : List Int) (lo hi : Nat) (A : Option Addr) (n cap : Nat) (w : World) (h : Rd .i64 w lo hi A n cap zs) (hn : n ≤ 67108864) :
    Calls Tryz.prog 55 #[.slice A n cap] w (SlPost 3 .i64 w (conv zs)) := by
  obtain ⟨i0, hi0, hz0, hz1, hz2⟩ := info_parts intInfo
  have hb := h.cap_
  have HZ := Lib.hid (And.intro hi0 (And.intro hz0 (And.intro hz1 hz2)))
  have hmk : ∀ W : World, (Instr.makeSlice 28 (.int .i64 2) (.int .i64 2)).run Tryz.prog W = .ok (.slice (some ⟨W.heap.size, 0, none⟩) 2 2) (W.alloc (.cells (madeCells #[.int .i64 0] 2) 3)) := fun W => run_make1 (P := Tryz.prog) 28 3 i0 _ Tryz.underlying28 hi0 hz0 hz1 2 (by omega) (by omega) W
  have HL := Lib.hid (show Pieces (((w.alloc (.cells #[] 3)).alloc (.cells (madeCells #[.int .i64 0] 2) 3)).alloc (.cells #[.slice A n cap, .slice (some ⟨w.heap.size + 1, 0, none⟩) 2 2] 28)) (some ⟨w.heap.size + 1 + 1, 0, none⟩) 2 (pair A n cap zs (some ⟨w.heap.size + 1, 0, none⟩) 2 2 [0, 0]) by
    have := pair_lie ((h.alloc (.cells #[] 3)).alloc (.cells (madeCells #[.int .i64 0] 2) 3)) (made_two 3 (w.alloc (.cells #[] 3))) 28
    simpa only [World.size_alloc] using this)
  have HLen := Lib.hid h.len
  clear h hi0 hz0 hz1 hz2
  go_enter Tryz.func55, Tryz.ntmps55
  go_wp2_with fail
  go_step3
  go_wp2_with fail
  go_step3
  go_wp2_with fail
  (with_reducible refine (concat _ _ 2 2 _ HL.out (by omega) (by rw [pair_tot]; omega)).mono ?_)
  rintro e w1 ⟨B, m, c, rfl, ho, hb1⟩
  rw [pair_flat] at ho
  have hm : m = n + 2 := by have h1 := ho.len; rw [List.length_append, HLen.out] at h1; simpa using h1.symm
  subst hm
  have HO := Lib.hid (Ow.rd (show Ow 3 .i64 w1 _ _ B (n + 2) c (tail zs) from ho))
  have HB := Lib.hid ((((Below.refl w.heap.size w).alloc (Nat.le_refl _) (.cells #[] 3)).alloc (by simp) (.cells (madeCells #[.int .i64 0] 2) 3)).alloc (by simp; omega) (.cells #[.slice A n cap, .slice (some ⟨w.heap.size + 1, 0, none⟩) 2 2] 28) |>.trans (hb1.mono (by simp; omega)))
  have HE := Lib.hid ((Ow.empty 3 .i64 w).below ((((Below.refl _ _).alloc (Nat.le_refl _) (.cells (madeCells #[.int .i64 0] 2) 3)).alloc (by simp) (.cells #[.slice A n cap, .slice (some ⟨w.heap.size + 1, 0, none⟩) 2 2] 28)).trans (hb1.mono (by simp))))
  clear ho hb1 hmk
  go_wp2_with fail
  go_loopw [3, 4, 15] (fun v s i wr => ∃ k : Nat, i = .int .i64 k ∧ s = .int .i64 (fin 0 ((tail zs).take k)) ∧ k ≤ n + 2 ∧ isb ((tail zs).take k) = true ∧ EncO w wr (tail zs) (w.heap.size + 1) w1.heap.size k v ∧ Spares (w.heap.size + 1) w1.heap.size w1 wr) (fun _ _ i _ => n + 2 - (intOf i).toNat)
  case atStart => exact ⟨0, rfl, rfl, by omega, rfl, ⟨_, _, rfl, HE.out.up, HB.out, out_at (Nat.lt_succ_self _)⟩, Spares.refl _ _ _⟩
  case round =>
    clear HE HB
    obtain ⟨k, rfl, rfl, hk, hi, ⟨B', c', rfl, ho, hb2, hout⟩, hb3⟩ := hrel
    have OUT := Lib.hid hout
    clear hout
    have O2 := Lib.hid ho
    have B2 := Lib.hid hb2
    have B3 := Lib.hid hb3
    have I2 := Lib.hid hi
    clear ho hb2 hb3 hi
    obtain ⟨s, hs⟩ : ∃ s, fin 0 ((tail zs).take k) = s := ⟨_, rfl⟩
    have hs01 := fin_in 0 ((tail zs).take k) (by omega)
    rw [hs] at hs01 ⊢
    have HS := Lib.hid hs
    clear hs
    by_cases hlt : k < n + 2
    · obtain ⟨b, off, rfl, h1, h2, hc⟩ := (HO.out.spared B3.out (by simp) (Nat.le_refl _)).at_ hlt
      obtain ⟨x, hx⟩ : ∃ x, (tail zs).getD k 0 = x := ⟨_, rfl⟩
      rw [hx] at hc
      have hlt2 : (k : Int) < (n : Int) + 2 := by omega
      have HLn := Lib.hid (show k < (tail zs).length by rw [HO.out.len]; exact hlt)
      by_cases h01 : 0 ≤ x ∧ x ≤ 1
      · have HSB := Lib.hid (show Sb s x from ⟨hs01, h01⟩)
        have HX := Lib.hid hx
        have HI3 := Lib.hid (show isb ((tail zs).take (k + 1)) = true from (isb_iff _).2 fun z hz => by
          rw [take_one HLn.out, HX.out] at hz
          rcases List.mem_append.1 hz with hz | hz
          · exact isb_all I2.out z hz
          · have : z = x := by simpa using hz
            rw [this]; exact h01)
        have HP1 := Lib.hid (bit_wf (op1_in s x))
        have HP2 := Lib.hid (bit_wf (op2_in s x))
        have HCW := Lib.hid (cw_take 0 HLn.out hx)
        have HFN := Lib.hid (fin_take 0 HLn.out hx)
        obtain ⟨p, hp⟩ : ∃ p, op1 s x = p := ⟨_, rfl⟩
        obtain ⟨q, hq⟩ : ∃ q, op2 s x = q := ⟨_, rfl⟩
        obtain ⟨u, hu⟩ : ∃ u, nst s x = u := ⟨_, rfl⟩
        have HOU := Lib.hid (show outp s x = (p, q) by rw [outp_yes HSB.out, hp, hq])
        have HNX := Lib.hid (show nxt s x = u by rw [nxt_yes HSB.out, hu])
        rw [hp] at HP1
        rw [hq] at HP2
        rw [HS.out, hp, hq] at HCW
        rw [HS.out, hu] at HFN
        clear h1 h2 hx hs01 hp hq hu
        obtain ⟨h01a, h01b⟩ := h01
        have hx2 : x = 0 ∨ x = 1 := by omega
        clear h01a h01b
        rcases hx2 with rfl | rfl
        all_goals
         (go_wp2_with fail
          (with_reducible refine (implOut s _ _).mono ?_)
          intro e w5 h5
          obtain ⟨rfl, rfl⟩ := TwoPost.parts HOU.out h5
          clear h5
          go_wp2_with (at_builtin; refine wpList_app_out _ rfl _ _ 28 rfl 3 i0 _ .i64 Tryz.underlying28 HZ.out.1 HZ.out.2.1 HZ.out.2.2.1 (by rw [HZ.out.2.2.2]; omega) rfl rfl rfl (O2.out.alloc _) (Rd.two .i64 _ _ _ _ HP1.out HP2.out) (by omega) (by have := B2.out.size; simp; omega) (w.heap.size + 1) w1.heap.size OUT.out (by have := B3.out.1; simp; omega) ?_; intro A1 cap1 w6 ho hb1 hou hsp; have O6 := Lib.hid ho; have B6 := Lib.hid ((B2.out.alloc B2.out.size _).trans hb1); have OUT2 := Lib.hid hou; have B7 := Lib.hid ((B3.out.alloc B3.out.1 _).trans hsp); clear ho hb1 hou hsp)
          (with_reducible refine (implNext s _ _).mono ?_)
          rw [HNX.out]
          rintro e w7 ⟨rfl, rfl⟩
          go_wp2_with fail
          go_roundw
          case rel => exact ⟨k + 1, by go_num, by rw [HFN.out], by omega, HI3.out, ⟨A1, cap1, by rw [Nat.mul_add], by rw [HCW.out]; exact O6.out, B6.out, OUT2.out⟩, B7.out⟩
          case measure => simp [intOf]; omega)
      · have hne0 : (x == 0) = false := by
          have : x ≠ 0 := by omega
          simpa using this
        have hne1 : (x == 1) = false := by
          have : x ≠ 1 := by omega
          simpa using this
        have H0 := Lib.hid (conv_no (l := zs) fun g => h01 (by have := isb_getD (tail_isb g) k; rwa [hx] at this))
        clear hx h01 h1 h2
        go_wp2_with fail
        rw [Exit.noGoto_ret]
        go_ret
        rw [H0.out]
        exact ⟨_, _, _, rfl, (Ow.empty _ _ _).up.down B2.out.size, B2.out.alloc B2.out.size _⟩
    · have hlt2 : ¬ (k : Int) < (n : Int) + 2 := by omega
      obtain rfl : k = n + 2 := by omega
      have hall : (tail zs).take (n + 2) = tail zs := List.take_of_length_le (by have := HO.out.len; omega)
      have HC := Lib.hid (show cw 0 ((tail zs).take (n + 2)) = conv zs by rw [hall, conv_yes (isb_tail (by have := I2.out; rwa [hall] at this))])
      clear hall
      go_wp2_with fail
      try rw [Exit.noGoto_ret]
      go_ret
      exact ⟨_, _, _, rfl, by have := O2.out; rw [HC.out] at this; exact this, B2.out⟩
set_option maxRecDepth 100000 in
set_option maxHeartbeats 4000000 in
theorem specCv (zs : List Int) (lo hi : Nat) (A : Option Addr) (n cap : Nat) (w : World) (h : Rd .i64 w lo hi A n cap zs) (hn : n ≤ 67108864) :
    Calls Tryz.prog 110 #[.slice A n cap] w (SlPost 3 .i64 w (conv zs)) := by
  obtain ⟨i0, hi0, hz0, hz1, hz2⟩ := info_parts intInfo
  have hb := h.cap_
  have HZ := Lib.hid (And.intro hi0 (And.intro hz0 (And.intro hz1 hz2)))
  have HLen := Lib.hid h.len
  have HR := Lib.hid h
  clear h hi0 hz0 hz1 hz2
  by_cases hi1 : isb zs = true
  · have HI := Lib.hid hi1
    have HTL := Lib.hid (show (tail zs).length = n + 2 by rw [tail_len, HLen.out])
    clear hi1
    go_enter Tryz.func110, Tryz.ntmps110
    go_wp2_with fail
    (with_reducible refine (bits.specIsb zs _ _ A n cap _ (HR.out.alloc _)).mono ?_)
    rw [HI.out]
    rintro e w1 ⟨rfl, rfl⟩
    go_wp2_with fail
    go_loopw [3, 4, 5] (fun v s i wr => ∃ k : Nat, i = .int .i64 k ∧ s = .int .i64 (fin 0 ((tail zs).take k)) ∧ k ≤ n + 2 ∧ Enc w wr (tail zs) k v) (fun _ _ i _ => n + 2 - (intOf i).toNat)
    case atStart => exact ⟨0, rfl, rfl, by omega, ⟨_, _, rfl, (Ow.empty 3 .i64 w).up, (Below.refl _ _).alloc (Nat.le_refl _) _⟩⟩
    case round =>
      obtain ⟨k, rfl, rfl, hk, ⟨B', c', rfl, ho, hb2⟩⟩ := hrel
      have O2 := Lib.hid ho
      have B2 := Lib.hid hb2
      clear ho hb2
      obtain ⟨s, hs⟩ : ∃ s, fin 0 ((tail zs).take k) = s := ⟨_, rfl⟩
      have hs01 := fin_in 0 ((tail zs).take k) (by omega)
      rw [hs] at hs01 ⊢
      have HS := Lib.hid hs
      clear hs
      by_cases hlt : k < n + 2
      · have hlt2 : (k : Int) < (n : Int) + 2 := by omega
        have HLn := Lib.hid (show k < (tail zs).length by rw [HTL.out]; exact hlt)
        obtain ⟨x, hx⟩ : ∃ x, (tail zs).getD k 0 = x := ⟨_, rfl⟩
        have h01 := isb_getD (tail_isb HI.out) k
        rw [hx] at h01
        have HSB := Lib.hid (show Sb s x from ⟨hs01, h01⟩)
        have HP1 := Lib.hid (bit_wf (op1_in s x))
        have HP2 := Lib.hid (bit_wf (op2_in s x))
        have HCW := Lib.hid (cw_take 0 HLn.out hx)
        have HFN := Lib.hid (fin_take 0 HLn.out hx)
        obtain ⟨p, hp⟩ : ∃ p, op1 s x = p := ⟨_, rfl⟩
        obtain ⟨q, hq⟩ : ∃ q, op2 s x = q := ⟨_, rfl⟩
        obtain ⟨u, hu⟩ : ∃ u, nst s x = u := ⟨_, rfl⟩
        have HOU := Lib.hid (show outp s x = (p, q) by rw [outp_yes HSB.out, hp, hq])
        have HNX := Lib.hid (show nxt s x = u by rw [nxt_yes HSB.out, hu])
        rw [hp] at HP1
        rw [hq] at HP2
        rw [HS.out, hp, hq] at HCW
        rw [HS.out, hu] at HFN
        clear hs01 hp hq hu h01
        by_cases hlt3 : k < n
        · have hlt4 : (k : Int) < n := by omega
          obtain ⟨b, off, rfl, h1, h2, hc⟩ := (HR.out.below B2.out).at_ hlt3
          rw [tail_at zs (by rw [HLen.out]; exact hlt3)] at hx
          rw [hx] at hc
          clear h1 h2 hx
          go_wp2_with fail
          (with_reducible refine (specOut s _ _).mono ?_)
          intro e w5 h5
          obtain ⟨rfl, rfl⟩ := TwoPost.parts HOU.out h5
          clear h5
          go_wp2_with (at_builtin; refine wpList_app _ rfl _ _ 28 rfl 3 i0 _ .i64 Tryz.underlying28 HZ.out.1 HZ.out.2.1 HZ.out.2.2.1 (by rw [HZ.out.2.2.2]; omega) rfl rfl rfl (O2.out.alloc _) (Rd.two .i64 _ _ _ _ HP1.out HP2.out) (by omega) (by have := B2.out.size; simp; omega) ?_; intro A1 cap1 w6 ho hb1; have O6 := Lib.hid ho; have B6 := Lib.hid ((B2.out.alloc B2.out.size _).trans hb1); clear ho hb1)
          (with_reducible refine (specNext s _ _).mono ?_)
          rw [HNX.out]
          rintro e w7 ⟨rfl, rfl⟩
          go_wp2_with fail
          go_roundw
          case rel => exact ⟨k + 1, by go_num, by rw [HFN.out], by omega, ⟨A1, cap1, by rw [Nat.mul_add], by rw [HCW.out]; exact O6.out, B6.out⟩⟩
          case measure => simp [intOf]; omega
        · have hlt4 : ¬ (k : Int) < n := by omega
          rw [tail_zero zs (by rw [HLen.out]; exact hlt3)] at hx
          subst hx
          go_wp2_with fail
          (with_reducible refine (specOut s _ _).mono ?_)
          intro e w5 h5
          obtain ⟨rfl, rfl⟩ := TwoPost.parts HOU.out h5
          clear h5
          go_wp2_with (at_builtin; refine wpList_app _ rfl _ _ 28 rfl 3 i0 _ .i64 Tryz.underlying28 HZ.out.1 HZ.out.2.1 HZ.out.2.2.1 (by rw [HZ.out.2.2.2]; omega) rfl rfl rfl (O2.out.alloc _) (Rd.two .i64 _ _ _ _ HP1.out HP2.out) (by omega) (by have := B2.out.size; simp; omega) ?_; intro A1 cap1 w6 ho hb1; have O6 := Lib.hid ho; have B6 := Lib.hid ((B2.out.alloc B2.out.size _).trans hb1); clear ho hb1)
          (with_reducible refine (specNext s _ _).mono ?_)
          rw [HNX.out]
          rintro e w7 ⟨rfl, rfl⟩
          go_wp2_with fail
          go_roundw
          case rel => exact ⟨k + 1, by go_num, by rw [HFN.out], by omega, ⟨A1, cap1, by rw [Nat.mul_add], by rw [HCW.out]; exact O6.out, B6.out⟩⟩
          case measure => simp [intOf]; omega
      · have hlt2 : ¬ (k : Int) < (n : Int) + 2 := by omega
        obtain rfl : k = n + 2 := by omega
        have HC := Lib.hid (show cw 0 ((tail zs).take (n + 2)) = conv zs by rw [List.take_of_length_le (by rw [HTL.out]; omega), conv_yes HI.out])
        go_wp2_with fail
        go_ret
        exact ⟨_, _, _, rfl, by have := O2.out; rw [HC.out] at this; exact this, B2.out⟩
  · have HI := Lib.hid (show isb zs = false by simpa using hi1)
    have H0 := Lib.hid (conv_no hi1)
    clear hi1
    go_enter Tryz.func110, Tryz.ntmps110
    go_wp2_with fail
    (with_reducible refine (bits.specIsb zs _ _ A n cap _ (HR.out.alloc _)).mono ?_)
    rw [HI.out]
    rintro e w1 ⟨rfl, rfl⟩
    go_wp2_with fail
    go_ret
    rw [H0.out]
    exact ⟨_, _, _, rfl, (Ow.empty _ _ _).up, (Below.refl _ _).alloc (Nat.le_refl _) _⟩
end Go.Proofs.YtdelpepepbkjmaaGreatDoor.cvs
end

section
namespace Go.Proofs.YtdelpepepbkjmaaGreatDoor.cvs
open Go.RowKit sl harn bm rng cvm

theorem part_low {kd : IntKind} {E : TypeId} {w wr : World} {n k : Nat} {zs : List Int} (h : Part kd E w wr n k zs) : Below w.heap.size w wr := by
  obtain ⟨_, _, _, _, h4⟩ := h
  exact h4
/-- What is kept of the first k. -/
def Kept (w wr : World) (zs : List Int) (k : Nat) (v : Value) : Prop := ∃ A q c, v = .slice A q c ∧ q = k - k / 4 ∧ Ow 3 .i64 wr w.heap.size wr.heap.size A q c (pk 0 (zs.take k)) ∧ Below w.heap.size w wr
theorem Kept.done {w wr : World} {zs : List Int} {k q : Nat} {A : Option Addr} {c : Nat} (ho : Ow 3 .i64 wr w.heap.size wr.heap.size A q c (pk 0 (zs.take k))) (hb : Below w.heap.size w wr) (hl : zs.length = k) : SlPost 3 .i64 w (punc zs) (.returned (.slice A q c)) wr := by
  rw [List.take_of_length_le (by omega)] at ho
  exact ⟨_, _, _, rfl, ho, hb⟩
set_option maxRecDepth 100000 in
theorem implPc (zs : List Int) (lo hi : Nat) (A : Option Addr) (n cap : Nat) (w : World) (h : Rd .i64 w lo hi A n cap zs) (hn : n ≤ 67108864) :
    Calls Tryz.prog 59 #[.slice A n cap] w (SlPost 3 .i64 w (punc zs)) := by
  obtain ⟨i0, hi0, hz0, hz1, hz2⟩ := info_parts intInfo
  have hb := h.cap_
  have HZ := Lib.hid (And.intro hi0 (And.intro hz0 (And.intro hz1 hz2)))
  have HLen := Lib.hid h.len
  have HR := Lib.hid h
  clear h hi0 hz0 hz1 hz2
  go_enter Tryz.func59, Tryz.ntmps59
  go_wp2_with fail
  go_loopw [3, 9] (fun v i wr => ∃ k : Nat, i = .int .i64 k ∧ k ≤ n ∧ Kept w wr zs k v) (fun _ i _ => n - (intOf i).toNat)
  case atStart => exact ⟨0, rfl, by omega, _, _, _, rfl, rfl, (Ow.empty 3 .i64 w).up, (Below.refl _ _).alloc (Nat.le_refl _) _⟩
  case round =>
    obtain ⟨k, rfl, hk, B, q, c, rfl, hq, ho, hb2⟩ := hrel
    have O2 := Lib.hid ho
    have B2 := Lib.hid hb2
    have HQ := Lib.hid hq
    have hq2 : q ≤ 67108864 := by omega
    clear ho hb2 hq
    by_cases hlt : k < n
    · have hlt2 : (k : Int) < n := by omega
      obtain ⟨b, off, rfl, h1, h2, hc⟩ := (HR.out.below B2.out).at_ hlt
      have HV := Lib.hid (HR.out.wf.getD (i := k) (by rw [HLen.out]; exact hlt))
      obtain ⟨x, hx⟩ : ∃ x, zs.getD k 0 = x := ⟨_, rfl⟩
      have HP := Lib.hid (pk_take (by rw [HLen.out]; exact hlt) hx)
      rw [hx] at hc HV
      clear h1 h2 hx
      by_cases h3 : k % 4 = 3
      · have H3 := Lib.hid h3
        have HQ2 := Lib.hid (show q = (k + 1) - (k + 1) / 4 by rw [HQ.out]; omega)
        clear h3
        go_wp2_with fail
        (with_reducible refine (isPun_yes k H3.out _).mono ?_)
        rintro e w7 ⟨rfl, rfl⟩
        go_wp2_with fail
        go_roundw
        case rel => exact ⟨k + 1, by go_num, by omega, _, _, _, rfl, HQ2.out, by rw [HP.out, if_pos H3.out]; exact O2.out, B2.out⟩
        case measure => simp [intOf]; omega
      · have H3 := Lib.hid h3
        have HQ2 := Lib.hid (show q + 1 = (k + 1) - (k + 1) / 4 by rw [HQ.out]; omega)
        clear h3
        go_wp2_with fail
        (with_reducible refine (isPun_no k H3.out _).mono ?_)
        rintro e w7 ⟨rfl, rfl⟩
        go_wp2_with (at_builtin; refine wpList_app _ rfl _ _ 28 rfl 3 i0 _ .i64 Tryz.underlying28 HZ.out.1 HZ.out.2.1 HZ.out.2.2.1 (by rw [HZ.out.2.2.2]; omega) rfl rfl rfl (O2.out.alloc _) (Rd.one .i64 _ _ _ HV.out) (by omega) (by have := B2.out.size; simp; omega) ?_; intro A1 cap1 w6 ho hb1; have O6 := Lib.hid ho; have B6 := Lib.hid ((B2.out.alloc B2.out.size _).trans hb1); clear ho hb1)
        go_roundw
        case rel => exact ⟨k + 1, by go_num, by omega, _, _, _, rfl, HQ2.out, by rw [HP.out, if_neg H3.out]; exact O6.out, B6.out⟩
        case measure => simp [intOf]; omega
    · have hlt2 : ¬ (k : Int) < n := by omega
      obtain rfl : k = n := by omega
      go_wp2_with fail
      go_ret
      exact Kept.done O2.out B2.out HLen.out
set_option maxRecDepth 100000 in
theorem specPc (zs : List Int) (lo hi : Nat) (A : Option Addr) (n cap : Nat) (w : World) (h : Rd .i64 w lo hi A n cap zs) (hn : n ≤ 67108864) :
    Calls Tryz.prog 113 #[.slice A n cap] w (SlPost 3 .i64 w (punc zs)) := by
  obtain ⟨i0, hi0, hz0, hz1, hz2⟩ := info_parts intInfo
  have hb := h.cap_
  have HZ := Lib.hid (And.intro hi0 (And.intro hz0 (And.intro hz1 hz2)))
  have HLen := Lib.hid h.len
  have HR := Lib.hid h
  clear h hi0 hz0 hz1 hz2
  go_enter Tryz.func113, Tryz.ntmps113
  go_wp2_with fail
  go_loopw [3, 4] (fun v i wr => ∃ k : Nat, i = .int .i64 k ∧ k ≤ n ∧ Kept w wr zs k v) (fun _ i _ => n - (intOf i).toNat)
  case atStart => exact ⟨0, rfl, by omega, _, _, _, rfl, rfl, (Ow.empty 3 .i64 w).up, (Below.refl _ _).alloc (Nat.le_refl _) _⟩
  case round =>
    obtain ⟨k, rfl, hk, B, q, c, rfl, hq, ho, hb2⟩ := hrel
    have O2 := Lib.hid ho
    have B2 := Lib.hid hb2
    have HQ := Lib.hid hq
    have hq2 : q ≤ 67108864 := by omega
    clear ho hb2 hq
    by_cases hlt : k < n
    · have hlt2 : (k : Int) < n := by omega
      obtain ⟨b, off, rfl, h1, h2, hc⟩ := (HR.out.below B2.out).at_ hlt
      have HV := Lib.hid (HR.out.wf.getD (i := k) (by rw [HLen.out]; exact hlt))
      obtain ⟨x, hx⟩ : ∃ x, zs.getD k 0 = x := ⟨_, rfl⟩
      have HP := Lib.hid (pk_take (by rw [HLen.out]; exact hlt) hx)
      rw [hx] at hc HV
      clear h1 h2 hx
      have h0 : 0 ≤ (k : Int) := by omega
      by_cases h3 : k % 4 = 3
      · have H3 := Lib.hid h3
        have HQ2 := Lib.hid (show q = (k + 1) - (k + 1) / 4 by rw [HQ.out]; omega)
        have h4 : (k : Int) % 4 = 3 := by omega
        clear h3
        go_wp2_with fail
        go_roundw
        case rel => exact ⟨k + 1, by go_num, by omega, _, _, _, rfl, HQ2.out, by rw [HP.out, if_pos H3.out]; exact O2.out, B2.out⟩
        case measure => simp [intOf]; omega
      · have H3 := Lib.hid h3
        have HQ2 := Lib.hid (show q + 1 = (k + 1) - (k + 1) / 4 by rw [HQ.out]; omega)
        obtain ⟨r, hr⟩ : ∃ r, (k : Int) % 4 = r := ⟨_, rfl⟩
        have hr2 : (r == 3) = false := by
          have : r ≠ 3 := by omega
          simpa using this
        clear h3
        go_wp2_with (at_builtin; refine wpList_app _ rfl _ _ 28 rfl 3 i0 _ .i64 Tryz.underlying28 HZ.out.1 HZ.out.2.1 HZ.out.2.2.1 (by rw [HZ.out.2.2.2]; omega) rfl rfl rfl (O2.out.alloc _) (Rd.one .i64 _ _ _ HV.out) (by omega) (by have := B2.out.size; simp; omega) ?_; intro A1 cap1 w6 ho hb1; have O6 := Lib.hid ho; have B6 := Lib.hid ((B2.out.alloc B2.out.size _).trans hb1); clear ho hb1)
        go_roundw
        case rel => exact ⟨k + 1, by go_num, by omega, _, _, _, rfl, HQ2.out, by rw [HP.out, if_neg H3.out]; exact O6.out, B6.out⟩
        case measure => simp [intOf]; omega
    · have hlt2 : ¬ (k : Int) < n := by omega
      obtain rfl : k = n := by omega
      go_wp2_with fail
      go_ret
      exact Kept.done O2.out B2.out HLen.out
set_option maxRecDepth 100000 in
theorem implDp (zs : List Int) (cn : Int) (hcw : (Lit.int .i64 cn).wf = true) (lo hi : Nat) (A : Option Addr) (n cap : Nat) (w : World) (h : Rd .i64 w lo hi A n cap zs) :
    Calls Tryz.prog 103 #[.slice A n cap, .int .i64 cn] w (SlPost 3 .i64 w (dep zs cn)) := by
  have hb := h.cap_
  have HLen := Lib.hid h.len
  have HR := Lib.hid h
  have HCW := Lib.hid hcw
  clear h hcw
  by_cases hin : 0 ≤ cn ∧ cn ≤ 4000
  · have HIn := Lib.hid hin
    obtain ⟨p, hp⟩ : ∃ p, plen cn = p := ⟨_, rfl⟩
    have HP := Lib.hid hp
    by_cases hpl : (n : Int) = p
    · subst hpl
      have HD := Lib.hid (dep_yes HIn.out (show (zs.length : Int) = plen cn by rw [HLen.out, hp]))
      obtain ⟨hin0, hin1⟩ := hin
      obtain ⟨m, rfl⟩ := Int.eq_ofNat_of_zero_le hin0
      rw [Int.toNat_natCast] at HD
      have hm : m ≤ 4000 := by omega
      have hnm : n = m - m / 4 := by rw [plen_nat] at hp; omega
      have HNM := Lib.hid hnm
      have HDL := Lib.hid (dep1_len zs m)
      have HDW := Lib.hid (dep1_wf HR.out.wf m)
      obtain ⟨i0, hi0, hz0, hz1, hz2⟩ := info_parts intInfo
      have hmk := fun W => run_make1 (P := Tryz.prog) 28 3 i0 _ Tryz.underlying28 hi0 hz0 hz1 m (by omega) (by omega) W
      clear hz2 hz1 hz0 hi0 hp hnm hin0 hin1
      go_enter Tryz.func103, Tryz.ntmps103
      go_wp2_with fail
      (with_reducible refine (inRange_yes m 0 4000 HIn.out _).mono ?_)
      rintro e w1 ⟨rfl, rfl⟩
      go_wp2_with fail
      (with_reducible refine (implPln m HCW.out _).mono ?_)
      rw [HP.out]
      rintro e w1 ⟨rfl, rfl⟩
      go_wp2_with fail
      go_loopw [22] (fun i wr => ∃ k : Nat, i = .int .i64 k ∧ k ≤ m ∧ Part .i64 3 w wr m k (dep1 zs m)) (fun i _ => m - (intOf i).toNat)
      case atStart => exact ⟨0, rfl, by omega, Part.start _ _ _ _ _ _⟩
      case round =>
        obtain ⟨k, rfl, hk, hp⟩ := hrel
        have HPa := Lib.hid hp
        clear hp
        by_cases hlt : k < m
        · obtain ⟨v, hv⟩ := HPa.out.cell hlt
          have hf := HPa.out.free k
          have hlt2 : (k : Int) < m := by omega
          have HX := Lib.hid (dep1_at zs hlt)
          by_cases h3 : k % 4 = 3
          · have H3 := Lib.hid h3
            clear h3
            go_wp2_with fail
            (with_reducible refine (isPun_yes k H3.out _).mono ?_)
            rintro e w7 ⟨rfl, rfl⟩
            go_wp2_with fail
            go_roundw
            case rel => exact ⟨k + 1, by go_num, by omega, by have := HPa.out.step hlt; rw [HX.out, if_pos H3.out] at this; exact this⟩
            case measure => simp [intOf]; omega
          · have H3 := Lib.hid h3
            obtain ⟨j, hj⟩ : ∃ j, k - k / 4 = j := ⟨_, rfl⟩
            have hjn : j < n := by rw [HNM.out]; omega
            have hjn2 : (j : Int) < n := by omega
            have HJ := Lib.hid (show plen (k : Int) = j by rw [plen_nat, hj])
            have HKW := Lib.hid (show (Lit.int .i64 (k : Int)).wf = true from WalkArith.wf_i64 (by omega))
            have HXJ := Lib.hid hj
            obtain ⟨b, off, rfl, h1, h2, hc⟩ := (HR.out.below (part_low HPa.out)).at_ hjn
            obtain ⟨x, hx⟩ : ∃ x, zs.getD j 0 = x := ⟨_, rfl⟩
            rw [hx] at hc
            have HXX := Lib.hid hx
            clear h3 h1 h2 hx hj
            go_wp2_with fail
            (with_reducible refine (isPun_no k H3.out _).mono ?_)
            rintro e w7 ⟨rfl, rfl⟩
            go_wp2_with fail
            (with_reducible refine (implPln k HKW.out _).mono ?_)
            rw [HJ.out]
            rintro e w8 ⟨rfl, rfl⟩
            go_wp2_with fail
            go_roundw
            case rel => exact ⟨k + 1, by go_num, by omega, by have := HPa.out.step hlt; rw [HX.out, if_neg H3.out, HXJ.out, HXX.out] at this; exact this⟩
            case measure => simp [intOf]; omega
        · have hlt2 : ¬ (k : Int) < m := by omega
          go_wp2_with fail
          go_ret
          obtain rfl : k = m := by omega
          rw [HD.out]
          exact HPa.out.done HDL.out HDW.out (by unfold maxLen; omega)
    · have HD := Lib.hid (dep_no (l := zs) (c := cn) (fun g => hpl (by rw [← hp, ← g.2, HLen.out])))
      have hne : ((n : Int) == p) = false := by simpa using hpl
      clear hp hin hpl
      go_enter Tryz.func103, Tryz.ntmps103
      go_wp2_with fail
      (with_reducible refine (inRange_yes cn 0 4000 HIn.out _).mono ?_)
      rintro e w1 ⟨rfl, rfl⟩
      go_wp2_with fail
      (with_reducible refine (implPln cn HCW.out _).mono ?_)
      rw [HP.out]
      rintro e w1 ⟨rfl, rfl⟩
      go_wp2_with fail
      go_ret
      rw [HD.out]
      exact ⟨_, _, _, rfl, (Ow.empty _ _ _).up, (Below.refl _ _).alloc (Nat.le_refl _) _⟩
  · have HIn := Lib.hid hin
    have HD := Lib.hid (dep_no (l := zs) (c := cn) (fun g => hin g.1))
    clear hin
    go_enter Tryz.func103, Tryz.ntmps103
    go_wp2_with fail
    (with_reducible refine (inRange_no cn 0 4000 HIn.out _).mono ?_)
    rintro e w1 ⟨rfl, rfl⟩
    go_wp2_with fail
    go_ret
    rw [HD.out]
    exact ⟨_, _, _, rfl, (Ow.empty _ _ _).up, (Below.refl _ _).alloc (Nat.le_refl _) _⟩
/-- What is restored of the first k. -/
def Rest (w wr : World) (zs : List Int) (m k : Nat) (v : Value) : Prop := ∃ A c, v = .slice A k c ∧ Ow 3 .i64 wr w.heap.size wr.heap.size A k c ((dep1 zs m).take k) ∧ Below w.heap.size w wr
set_option maxRecDepth 100000 in
theorem specDp (zs : List Int) (cn : Int) (hcw : (Lit.int .i64 cn).wf = true) (lo hi : Nat) (A : Option Addr) (n cap : Nat) (w : World) (h : Rd .i64 w lo hi A n cap zs) :
    Calls Tryz.prog 40 #[.slice A n cap, .int .i64 cn] w (SlPost 3 .i64 w (dep zs cn)) := by
  have hb := h.cap_
  have HLen := Lib.hid h.len
  have HR := Lib.hid h
  have HCW := Lib.hid hcw
  clear h hcw
  by_cases hin : 0 ≤ cn ∧ cn ≤ 4000
  · have HIn := Lib.hid hin
    obtain ⟨p, hp⟩ : ∃ p, plen cn = p := ⟨_, rfl⟩
    have HP := Lib.hid hp
    by_cases hpl : (n : Int) = p
    · subst hpl
      have HD := Lib.hid (dep_yes HIn.out (show (zs.length : Int) = plen cn by rw [HLen.out, hp]))
      obtain ⟨hin0, hin1⟩ := hin
      obtain ⟨m, rfl⟩ := Int.eq_ofNat_of_zero_le hin0
      rw [Int.toNat_natCast] at HD
      have hm : m ≤ 4000 := by omega
      have hnm : n = m - m / 4 := by rw [plen_nat] at hp; omega
      have HNM := Lib.hid hnm
      have HDL := Lib.hid (dep1_len zs m)
      have HDW := Lib.hid (dep1_wf HR.out.wf m)
      obtain ⟨i0, hi0, hz0, hz1, hz2⟩ := info_parts intInfo
      have HZ := Lib.hid (And.intro hi0 (And.intro hz0 (And.intro hz1 hz2)))
      clear hz2 hz1 hz0 hi0 hp hnm hin0 hin1
      go_enter Tryz.func40, Tryz.ntmps40
      go_wp2_with fail
      (with_reducible refine (l1In_yes m 0 4000 HIn.out _).mono ?_)
      rintro e w1 ⟨rfl, rfl⟩
      go_wp2_with fail
      (with_reducible refine (specPln m HCW.out _).mono ?_)
      rw [HP.out]
      rintro e w1 ⟨rfl, rfl⟩
      go_wp2_with fail
      go_loopw [5, 6, 7] (fun v q i wr => ∃ k j : Nat, i = .int .i64 k ∧ q = .int .i64 j ∧ j = k - k / 4 ∧ k ≤ m ∧ Rest w wr zs m k v) (fun _ _ i _ => m - (intOf i).toNat)
      case atStart => exact ⟨0, 0, rfl, rfl, rfl, by omega, _, _, rfl, (Ow.empty 3 .i64 w).up, (Below.refl _ _).alloc (Nat.le_refl _) _⟩
      case round =>
        obtain ⟨k, j, rfl, rfl, hj, hk, B', c', rfl, ho, hb2⟩ := hrel
        have O2 := Lib.hid ho
        have B2 := Lib.hid hb2
        have hj2 : j ≤ 4000 := by omega
        have HJ := Lib.hid hj
        clear ho hb2 hj
        by_cases hlt : k < m
        · have hlt2 : (k : Int) < m := by omega
          have h0 : 0 ≤ (k : Int) := by omega
          have HX := Lib.hid (dep1_at zs hlt)
          have HT := Lib.hid (cvm.take_one (show k < (dep1 zs m).length by rw [HDL.out]; exact hlt))
          by_cases h3 : k % 4 = 3
          · have H3 := Lib.hid h3
            have h4 : (k : Int) % 4 = 3 := by omega
            have HJ2 := Lib.hid (show j = (k + 1) - (k + 1) / 4 by rw [HJ.out]; omega)
            have HV := Lib.hid (show (Lit.int .i64 2).wf = true by decide)
            clear h3
            go_wp2_with (at_builtin; refine wpList_app _ rfl _ _ 28 rfl 3 i0 _ .i64 Tryz.underlying28 HZ.out.1 HZ.out.2.1 HZ.out.2.2.1 (by rw [HZ.out.2.2.2]; omega) rfl rfl rfl (O2.out.alloc _) (Rd.one .i64 _ _ _ HV.out) (by omega) (by have := B2.out.size; simp; omega) ?_; intro A1 cap1 w6 ho hb1; have O6 := Lib.hid ho; have B6 := Lib.hid ((B2.out.alloc B2.out.size _).trans hb1); clear ho hb1)
            go_roundw
            case rel => exact ⟨k + 1, j, by go_num, rfl, HJ2.out, by omega, _, _, rfl, by rw [HT.out, HX.out, if_pos H3.out]; exact O6.out, B6.out⟩
            case measure => simp [intOf]; omega
          · have H3 := Lib.hid h3
            have HJ2 := Lib.hid (show j + 1 = (k + 1) - (k + 1) / 4 by rw [HJ.out]; omega)
            obtain ⟨r, hr⟩ : ∃ r, (k : Int) % 4 = r := ⟨_, rfl⟩
            have hr2 : (r == 3) = false := by
              have : r ≠ 3 := by omega
              simpa using this
            have hjn : j < n := by rw [HNM.out, HJ.out]; omega
            have hjn2 : (j : Int) < n := by omega
            obtain ⟨b, off, rfl, h1, h2, hc⟩ := (HR.out.below B2.out).at_ hjn
            have HV := Lib.hid (HR.out.wf.getD (i := j) (by rw [HLen.out]; exact hjn))
            obtain ⟨x, hx⟩ : ∃ x, zs.getD j 0 = x := ⟨_, rfl⟩
            rw [hx] at hc HV
            have HXX := Lib.hid hx
            clear h3 h1 h2 hx
            go_wp2_with (at_builtin; refine wpList_app _ rfl _ _ 28 rfl 3 i0 _ .i64 Tryz.underlying28 HZ.out.1 HZ.out.2.1 HZ.out.2.2.1 (by rw [HZ.out.2.2.2]; omega) rfl rfl rfl (O2.out.alloc _) (Rd.one .i64 _ _ _ HV.out) (by omega) (by have := B2.out.size; simp; omega) ?_; intro A1 cap1 w6 ho hb1; have O6 := Lib.hid ho; have B6 := Lib.hid ((B2.out.alloc B2.out.size _).trans hb1); clear ho hb1)
            go_roundw
            case rel => exact ⟨k + 1, j + 1, by go_num, by go_num, HJ2.out, by omega, _, _, rfl, by rw [HT.out, HX.out, if_neg H3.out, ← HJ.out, HXX.out]; exact O6.out, B6.out⟩
            case measure => simp [intOf]; omega
        · have hlt2 : ¬ (k : Int) < m := by omega
          obtain rfl : k = m := by omega
          go_wp2_with fail
          go_ret
          rw [HD.out]
          exact ⟨_, _, _, rfl, by have := O2.out; rw [List.take_of_length_le (by rw [HDL.out]; omega)] at this; exact this, B2.out⟩
    · have HD := Lib.hid (dep_no (l := zs) (c := cn) (fun g => hpl (by rw [← hp, ← g.2, HLen.out])))
      have hne : ((n : Int) == p) = false := by simpa using hpl
      clear hp hin hpl
      go_enter Tryz.func40, Tryz.ntmps40
      go_wp2_with fail
      (with_reducible refine (l1In_yes cn 0 4000 HIn.out _).mono ?_)
      rintro e w1 ⟨rfl, rfl⟩
      go_wp2_with fail
      (with_reducible refine (specPln cn HCW.out _).mono ?_)
      rw [HP.out]
      rintro e w1 ⟨rfl, rfl⟩
      go_wp2_with fail
      go_ret
      rw [HD.out]
      exact ⟨_, _, _, rfl, (Ow.empty _ _ _).up, (Below.refl _ _).alloc (Nat.le_refl _) _⟩
  · have HIn := Lib.hid hin
    have HD := Lib.hid (dep_no (l := zs) (c := cn) (fun g => hin g.1))
    clear hin
    go_enter Tryz.func40, Tryz.ntmps40
    go_wp2_with fail
    (with_reducible refine (l1In_no cn 0 4000 HIn.out _).mono ?_)
    rintro e w1 ⟨rfl, rfl⟩
    go_wp2_with fail
    go_ret
    rw [HD.out]
    exact ⟨_, _, _, rfl, (Ow.empty _ _ _).up, (Below.refl _ _).alloc (Nat.le_refl _) _⟩
end Go.Proofs.YtdelpepepbkjmaaGreatDoor.cvs
end

section
namespace Go.Proofs.YtdelpepepbkjmaaGreatDoor.draw
open Go.RowKit

def okInt (lo hi : Int) : Value → Bool
  | .int .i64 z => decide (lo ≤ z ∧ z ≤ hi)
  | _ => false
theorem of_okInt {lo hi : Int} {v : Value} (h : okInt lo hi v = true) : ∃ z, v = .int .i64 z ∧ (lo ≤ z ∧ z ≤ hi) := by
  unfold okInt at h
  split at h
  · exact ⟨_, rfl, of_decide_eq_true h⟩
  · cases h
theorem row_new {P : Value → Prop} {ok : Value → Bool} (hok : ∀ v, ok v = true → P v) (w : World) (p : Nat) (hp : p < w.heap.size) (vs : Array Value) (t : TypeId) (n : Nat) (hn : vs.size = n) (ha : vs.toList.all ok = true) :
    Row P (w.alloc (.cells vs t)) p w.heap.size n := by
  have hb : (w.alloc (.cells vs t)).heap[w.heap.size]? = some (.cells vs t (0, 0)) := by show (w.heap.push _)[w.heap.size]? = _; simp
  refine ⟨by omega, by simp, fun i hi => ⟨vs[i]'(by omega), hok _ (List.all_eq_true.1 ha _ (by simp)), ?_⟩⟩
  have hi2 : i < vs.size := by omega
  simp only [World.cell?, hb]
  exact Array.getElem?_eq_getElem hi2
theorem Cur.lt {w : World} {p : Nat} {a : Option Addr} {len cap : Nat} (h : Cur w p a len cap) : p < w.heap.size := by
  obtain ⟨-, i, g, -, hb⟩ := h
  exact lt_of_block hb
theorem Cur.alloc {w : World} {p : Nat} {a : Option Addr} {len cap : Nat} (h : Cur w p a len cap) (o : Obj) : Cur (w.alloc o) p a len cap := by
  have hp := h.lt
  obtain ⟨hc, i, g, hi, hb⟩ := h
  exact ⟨hc.keep ((Keep.refl p w).alloc o), i, g, hi, by rw [Below.heap_alloc w o p hp]; exact hb⟩

/-- A number in a range. -/
def IntPost (lo hi : Int) (p : Nat) (a : Option Addr) (len cap : Nat) (w : World) (e : Ending) (w' : World) : Prop := ∃ z : Int, e = .returned (.int .i64 z) ∧ lo ≤ z ∧ z ≤ hi ∧ Keep p w w' ∧ Cur w' p a len cap

theorem pickIn (lo hi : Int) (n : Nat) (hn0 : 0 < n) (hn : (n : Int) ≤ 9223372036854775807) (w : World) (p : Nat) (a : Option Addr) (len cap : Nat) (hc : Cur w p a len cap) (vs : Array Value) (hs : vs.size = n) (ha : vs.toList.all (okInt lo hi) = true) :
    Calls Tryz.prog 47 #[.pointer (some ⟨p, 0, none⟩), .slice (some ⟨w.heap.size, 0, none⟩) n n] (w.alloc (.cells vs 3)) (IntPost lo hi p a len cap w) := by
  refine (pickInt (fun z => lo ≤ z ∧ z ≤ hi) n hn0 hn _ p w.heap.size a len cap n (row_new (fun v => of_okInt) w p hc.lt vs 3 n hs ha) (hc.alloc _)).mono ?_
  rintro e w1 ⟨v, rfl, ⟨z, rfl, h1, h2⟩, hk, hc1⟩
  exact ⟨z, rfl, h1, h2, ((Keep.refl p w).alloc _).trans hk, hc1⟩

theorem keep_below {w w1 w2 : World} (h : Keep w.heap.size w w1) (h2 : Keep w.heap.size w1 w2) : Below w.heap.size w w2 :=
  have k := h.trans h2
  ⟨k.os, k.tape, k.output, k.size, fun j hj => k.block j hj (by omega)⟩
theorem code_later {w w' : World} {a : Option Addr} {len : Nat} (h : Code w w.heap.size a len) (hb : Below w.heap.size w w') : Code w' w'.heap.size a len := by
  refine ⟨h.1, fun hl => ?_⟩
  obtain ⟨b, off, e, -, hlt, hc⟩ := h.2 hl
  have := hb.size
  refine ⟨b, off, e, by omega, by omega, fun i hi => ?_⟩
  obtain ⟨z, h1, h2, h3⟩ := hc i hi
  exact ⟨z, h1, h2, by rw [hb.cell (p := ⟨b, off + i, none⟩) hlt]; exact h3⟩
end Go.Proofs.YtdelpepepbkjmaaGreatDoor.draw
end

section
namespace Go.Proofs.YtdelpepepbkjmaaGreatDoor.draw
open Go.RowKit sl harn

theorem ow_keep {E : TypeId} {k : IntKind} {w w' : World} {lo hi n cap p : Nat} {A : Option Addr} {zs : List Int} (h : Ow E k w lo hi A n cap zs) (hk : Keep p w w') (hp : p < lo) : Ow E k w' lo hi A n cap zs :=
  h.same hk.size fun b h1 h2 => hk.block b (by have := h.hi_; omega) (by omega)
theorem cur_then {w w1 w2 : World} {p : Nat} {a : Option Addr} {len cap : Nat} (hc0 : Code w p a len) (hp : p < w.heap.size) (hk : Keep p w w1) (hc : Cur w1 p a len cap) (hb : Below w.heap.size w1 w2) : Keep p w w2 ∧ Cur w2 p a len cap := by
  have k2 : Keep p w w2 := ⟨hb.os.trans hk.os, hb.tape.trans hk.tape, hb.output.trans hk.output, Nat.le_trans hk.size hb.size, fun j hj hn => (hb.block j hj).trans (hk.block j hj hn)⟩
  obtain ⟨-, i, g, hi, hblk⟩ := hc
  exact ⟨k2, hc0.keep k2, i, g, hi, (hb.block p hp).trans hblk⟩

theorem below_push' {B : Nat} {w w' : World} {o : Obj} (hl : B ≤ w.heap.size) (hb : Below B (w.alloc o) w') : Below B w w' := ((Below.refl _ _).alloc hl o).trans hb
theorem cur_then2 {w w1 w2 : World} {B : Nat} {a : Option Addr} {len cap : Nat} (hc0 : Code w w.heap.size a len) (hp : w.heap.size < B) (hk : Keep w.heap.size w w1) (hc : Cur w1 w.heap.size a len cap) (hb : Below B w1 w2) : Keep w.heap.size w w2 ∧ Cur w2 w.heap.size a len cap := by
  have k2 : Keep w.heap.size w w2 := ⟨hb.os.trans hk.os, hb.tape.trans hk.tape, hb.output.trans hk.output, Nat.le_trans hk.size hb.size, fun j hj hn => (hb.block j (by omega)).trans (hk.block j hj hn)⟩
  obtain ⟨-, i, g, hi, hblk⟩ := hc
  exact ⟨k2, hc0.keep k2, i, g, hi, (hb.block _ hp).trans hblk⟩
/-- Some bytes, as many as asked for. -/
def SomePost (N : Int) (p : Nat) (a : Option Addr) (len cap : Nat) (w : World) (e : Ending) (w' : World) : Prop :=
  ∃ A n c zs, e = .returned (.slice A n c) ∧ (n : Int) ≤ N ∧ Ow 5 .u8 w' w.heap.size w'.heap.size A n c zs ∧ Keep p w w' ∧ Cur w' p a len cap
/-- Bytes that are being drawn. -/
def Drawing (w wr : World) (p : Nat) (a : Option Addr) (len cap : Nat) (k : Nat) (v : Value) : Prop :=
  ∃ A c zs, v = .slice A k c ∧ Ow 5 .u8 wr w.heap.size wr.heap.size A k c zs ∧ Keep p w wr ∧ Cur wr p a len cap
set_option maxRecDepth 100000 in
theorem bytes (N : Int) (h0 : 0 ≤ N) (hN : N ≤ 1000) (w : World) (p : Nat) (a : Option Addr) (len cap : Nat) (hc : Cur w p a len cap) :
    Calls Tryz.prog 27 #[.pointer (some ⟨p, 0, none⟩), .int .i64 N] w (SomePost N p a len cap w) := by
  obtain ⟨i0, hi0, hz0, hz1, hz2⟩ := info_parts u8Info
  have C0 := Lib.hid hc
  have P0 := Lib.hid hc.lt
  have HZ := Lib.hid (And.intro hi0 (And.intro hz0 (And.intro hz1 hz2)))
  clear hc hi0 hz0 hz1 hz2
  go_enter Tryz.func27, Tryz.ntmps27
  go_wp2
  go_loopw [5, 6] (fun v i wr => ∃ k : Nat, i = .int .i64 k ∧ (k : Int) ≤ N ∧ Drawing w wr p a len cap k v) (fun _ i _ => (N - intOf i).toNat)
  case atStart => exact ⟨0, rfl, by omega, _, _, [], rfl, (Ow.empty 5 .u8 w).up, (Keep.refl p w).alloc _, C0.out.alloc _⟩
  case round =>
    obtain ⟨k, rfl, hk, B, c, zs, rfl, ho, hkp, hcu⟩ := hrel
    have HO := Lib.hid ho
    have HK := Lib.hid hkp
    have HC := Lib.hid hcu
    clear ho hkp hcu
    by_cases hlt : (k : Int) < N
    · go_wp2_with (first
        | (go_at_call 48; refine (byte _ p a len cap HC.out).mono ?_; rintro e w1 ⟨x, rfl, hx0, hx1, hk1, hc1⟩; have HO1 := Lib.hid (ow_keep HO.out hk1 P0.out); have HX := Lib.hid (show (Lit.int .u8 x).wf = true from WalkArith.wf_u8 (by omega)); have HC1 := Lib.hid hc1; have HK1 := Lib.hid (HK.out.trans hk1); (have hs1 : w.heap.size ≤ w1.heap.size := HK1.out.size); clear hk1 hc1 HC HO HK)
        | (at_builtin; refine wpList_app _ rfl _ _ 22 rfl 5 i0 _ .u8 Tryz.underlying22 HZ.out.1 HZ.out.2.1 HZ.out.2.2.1 (by rw [HZ.out.2.2.2]; omega) rfl rfl rfl (HO1.out.alloc _) (Rd.one .u8 _ _ _ HX.out) (by omega) (by simp; omega) ?_; intro A1 cap1 w3 ho hb1; have HO3 := Lib.hid ho; have HB := Lib.hid (cur_then C0.out.1 P0.out HK1.out HC1.out (below_push' hs1 hb1)); clear ho hb1))
      go_roundw
      case rel => exact ⟨k + 1, by go_num, by omega, A1, cap1, zs ++ [x], rfl, HO3.out, HB.out.1, HB.out.2⟩
      case measure => simp [intOf]; omega
    · go_wp2
      go_ret
      exact ⟨_, _, _, zs, rfl, hk, HO.out, HK.out, HC.out⟩

end Go.Proofs.YtdelpepepbkjmaaGreatDoor.draw
end

section
namespace Go.Proofs.YtdelpepepbkjmaaGreatDoor.draw
open Go.RowKit

def okStr (m : Nat) : Value → Bool
  | .string s => decide (s.size ≤ m)
  | _ => false
theorem of_okStr {m : Nat} {v : Value} (h : okStr m v = true) : ∃ z, v = .string z ∧ z.size ≤ m := by
  unfold okStr at h
  split at h
  · exact ⟨_, rfl, of_decide_eq_true h⟩
  · cases h
def StrPost (m : Nat) (p : Nat) (a : Option Addr) (len cap : Nat) (w : World) (e : Ending) (w' : World) : Prop := ∃ z : ByteArray, e = .returned (.string z) ∧ z.size ≤ m ∧ Keep p w w' ∧ Cur w' p a len cap
end Go.Proofs.YtdelpepepbkjmaaGreatDoor.draw
end

section
namespace Go.Proofs.YtdelpepepbkjmaaGreatDoor.draw
open Go.RowKit sl harn

/-- Numbers in a range. -/
def In (lo hi : Int) (zs : List Int) : Prop := ∀ z ∈ zs, lo ≤ z ∧ z ≤ hi
theorem In.nil (lo hi : Int) : In lo hi [] := fun _ h => by cases h
theorem In.push {lo hi : Int} {zs : List Int} (h : In lo hi zs) {x : Int} (h1 : lo ≤ x) (h2 : x ≤ hi) : In lo hi (zs ++ [x]) := fun z hz => by
  rcases List.mem_append.1 hz with hz | hz
  · exact h z hz
  · have : z = x := by simpa using hz
    subst this; exact ⟨h1, h2⟩
/-- Some numbers in a range, at most N. -/
def SomeInts (lo hi : Int) (N : Nat) (p : Nat) (a : Option Addr) (len cap : Nat) (w : World) (e : Ending) (w' : World) : Prop :=
  ∃ A n c zs, e = .returned (.slice A n c) ∧ n ≤ N ∧ Ow 3 .i64 w' w.heap.size w'.heap.size A n c zs ∧ In lo hi zs ∧ Keep p w w' ∧ Cur w' p a len cap
def DrawingI (lo hi : Int) (w wr : World) (p : Nat) (a : Option Addr) (len cap : Nat) (k : Nat) (v : Value) : Prop :=
  ∃ A c zs, v = .slice A k c ∧ Ow 3 .i64 wr w.heap.size wr.heap.size A k c zs ∧ In lo hi zs ∧ Keep p w wr ∧ Cur wr p a len cap
/-- A key and some bytes. -/
def DrawnKeyBytes (w : World) (e : Ending) (w' : World) : Prop :=
  ∃ k A n c zs, e = .returned (.tuple #[.int .i64 k, .slice A n c]) ∧ (-1 ≤ k ∧ k ≤ 2147483648) ∧ n ≤ 8 ∧ Ow 5 .u8 w' w.heap.size w'.heap.size A n c zs ∧ Below w.heap.size w w'
/-- A key and some numbers. -/
def DrawnKeyInts (w : World) (e : Ending) (w' : World) : Prop :=
  ∃ k A n c zs, e = .returned (.tuple #[.int .i64 k, .slice A n c]) ∧ (-1 ≤ k ∧ k ≤ 2147483648) ∧ n ≤ 4 ∧ Ow 3 .i64 w' w.heap.size w'.heap.size A n c zs ∧ In (-1) 2147483648 zs ∧ Below w.heap.size w w'
/-- A key and a string. -/
def DrawnKeyStr (w : World) (e : Ending) (w' : World) : Prop :=
  ∃ (k : Int) (s : ByteArray), e = .returned (.tuple #[.int .i64 k, .string s]) ∧ (-1 ≤ k ∧ k ≤ 2147483648) ∧ s.size ≤ 4 ∧ Below w.heap.size w w'
end Go.Proofs.YtdelpepepbkjmaaGreatDoor.draw
end

section
namespace Go.Proofs.YtdelpepepbkjmaaGreatDoor.draw
open Go.RowKit sl harn

/-- What stands behind a change of one cell of a row of the call's own. -/
theorem ow_set {E : TypeId} {k : IntKind} {w : World} {lo hi n cap b : Nat} {zs : List Int} (h : Ow E k w lo hi (some ⟨b, 0, none⟩) n cap zs) (i : Nat) (v : Int) (hv : (Lit.int k v).wf = true) : Ow E k (w.setCell ⟨b, i, none⟩ (.int k v)) lo hi (some ⟨b, 0, none⟩) n cap (zs.set i v) := by
  have hs := h.1.stored i (.int k v)
  have e : (zs.map (Value.int k)).set i (.int k v) = (zs.set i v).map (Value.int k) := by rw [List.map_set]
  refine ⟨?_, ?_, ?_, h.2.2.2⟩
  · rw [← e]; exact hs.1
  · intro z hz
    rcases List.mem_or_eq_of_mem_set hz with hz | hz
    · exact h.wf z hz
    · rw [hz]; exact hv
  · have := h.hi_; simpa [World.setCell] using this
theorem In.set {lo hi : Int} {zs : List Int} (h : In lo hi zs) (i : Nat) {x : Int} (h1 : lo ≤ x) (h2 : x ≤ hi) : In lo hi (zs.set i x) := fun z hz => by
  rcases List.mem_or_eq_of_mem_set hz with hz | hz
  · exact h z hz
  · rw [hz]; exact ⟨h1, h2⟩
theorem In.wide {lo hi lo2 hi2 : Int} {zs : List Int} (h : In lo hi zs) (h1 : lo2 ≤ lo) (h2 : hi ≤ hi2) : In lo2 hi2 zs := fun z hz => by
  have := h z hz; omega
theorem SomeInts.wide {lo hi lo2 hi2 : Int} {N : Nat} {p : Nat} {a : Option Addr} {len cap : Nat} {w w' : World} {e : Ending} (h : SomeInts lo hi N p a len cap w e w') (h1 : lo2 ≤ lo) (h2 : hi ≤ hi2) : SomeInts lo2 hi2 N p a len cap w e w' := by
  obtain ⟨A, n, c, zs, e1, e2, e3, e4, e5⟩ := h
  exact ⟨A, n, c, zs, e1, e2, e3, e4.wide h1 h2, e5⟩
theorem cell_of {E : TypeId} {k : IntKind} {w : World} {lo hi n cap b : Nat} {zs : List Int} (h : Ow E k w lo hi (some ⟨b, 0, none⟩) n cap zs) {j : Nat} (hj : j < n) : w.cell? ⟨b, j, none⟩ = some (.int k (zs.getD j 0)) := by
  obtain ⟨b', off, e, _, _, hc⟩ := h.rd.at_ hj
  injection e with e; injection e with e1 e2 e3
  subst e1 e2
  rwa [Nat.zero_add] at hc
end Go.Proofs.YtdelpepepbkjmaaGreatDoor.draw
end
