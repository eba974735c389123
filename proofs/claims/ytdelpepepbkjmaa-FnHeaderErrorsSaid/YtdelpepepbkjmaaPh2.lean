/- slices.Repeat of eighteen elements three times, walked in the library's own text; EncodeHeader, program and specification. Condition: none. -/
import Derived.Test.YtdelpepepbkjmaaPh1
import Derived.Test.YtdelpepepbkjmaaBits4
import Derived.Test.YtdelpepepbkjmaaConcat
import Derived.Test.YtdelpepepbkjmaaOwn
import Derived.Laws.CopyOwn
import Derived.Deep.RegionHeld3
import Derived.Deep.RegionLaw
namespace Go.Proofs.Ytdelpepepbkjmaa.cat
open Go.RowKit sl harn
theorem cell_in {w : World} {b i : Nat} {cs : Array Value} {t : TypeId} {v : Value} (h : w.heap[b]? = some (.cells cs t (0, 0))) (hi : cs[i]? = some v) : w.cell? ⟨b, i, none⟩ = some v := by simp [World.cell?, h, hi]
/-- Three slices side by side, as slices.Concat reads them. -/
def trip (A : Option Addr) (n cap : Nat) (zs : List Int) (B : Option Addr) (m c : Nat) (ys : List Int) (C : Option Addr) (q d : Nat) (xs : List Int) : List Piece := [⟨A, n, cap, zs⟩, ⟨B, m, c, ys⟩, ⟨C, q, d, xs⟩]
section
variable {A B C : Option Addr} {n cap m c q d : Nat} {zs ys xs : List Int}
theorem trip_flat : flat (trip A n cap zs B m c ys C q d xs) = zs ++ (ys ++ xs) := by simp [flat, trip]
theorem trip_tot : tot (trip A n cap zs B m c ys C q d xs) = n + (m + q) := by simp [tot, trip]
theorem trip_lie {w : World} {lo hi lo2 hi2 lo3 hi3 : Nat} (h : Rd .i64 w lo hi A n cap zs) (g : Rd .i64 w lo2 hi2 B m c ys) (k : Rd .i64 w lo3 hi3 C q d xs) (E : TypeId) :
    Pieces (w.alloc (.cells #[.slice A n cap, .slice B m c, .slice C q d] E)) (some ⟨w.heap.size, 0, none⟩) 3 (trip A n cap zs B m c ys C q d xs) := by
  refine ⟨rfl, fun j s hj => ?_⟩
  have hb : ∀ j v, (#[Value.slice A n cap, .slice B m c, .slice C q d] : Array Value)[j]? = some v →
      (w.alloc (.cells #[.slice A n cap, .slice B m c, .slice C q d] E)).cell? ⟨w.heap.size, 0 + j, none⟩ = some v := fun j v hv => by
    rw [Nat.zero_add]
    exact cell_in (heap_alloc_new w _) hv
  rcases j with _ | _ | _ | j
  · injection hj with hj; subst hj
    exact ⟨⟨_, 0, rfl, by simp, hb 0 _ rfl⟩, (h.alloc _).wide⟩
  · injection hj with hj; subst hj
    exact ⟨⟨_, 0, rfl, by simp, hb 1 _ rfl⟩, (g.alloc _).wide⟩
  · injection hj with hj; subst hj
    exact ⟨⟨_, 0, rfl, by simp, hb 2 _ rfl⟩, (k.alloc _).wide⟩
  · simp [trip] at hj
end
end Go.Proofs.Ytdelpepepbkjmaa.cat
namespace Go.Proofs.Ytdelpepepbkjmaa.phs
open Go.RowKit sl harn rng phm

theorem mul64 (w : World) : Calls Try.prog 87 #[.int .u64 18, .int .u64 3] w fun e w' => e = .returned (.tuple #[.int .u64 0, .int .u64 54]) ∧ w = w' := by
  have h1 : bits .and .u64 18 4294967295 = 18 := by decide
  have h2 : bits .and .u64 3 4294967295 = 3 := by decide
  have h3 : bits .and .u64 0 4294967295 = 0 := by decide
  go_enter Try.func87, Try.ntmps87
  go_wp2
  go_ret2
  exact ⟨rfl, rfl⟩
theorem mul (w : World) : Calls Try.prog 66 #[.int .u64 18, .int .u64 3] w fun e w' => e = .returned (.tuple #[.int .u64 0, .int .u64 54]) ∧ w = w' := by
  go_enter Try.func66, Try.ntmps66
  go_wp2_with fail
  (with_reducible refine (mul64 _).mono ?_)
  rintro e w1 ⟨rfl, rfl⟩
  go_wp2_with fail
  go_ret2
  exact ⟨rfl, rfl⟩
theorem Rd.upto {k : IntKind} {w w' : World} {lo hi n cap B : Nat} {A : Option Addr} {zs : List Int} (h : Rd k w lo hi A n cap zs) (hb : Below B w w') (hB : hi ≤ B) : Rd k w' lo hi A n cap zs := h.same hb.size fun b _ hlt => hb.block b (by omega)
/-- A row of numbers that is known whole. -/
def Rw (w : World) (b : Nat) (L : List Int) : Prop := w.heap[b]? = some (.cells (L.map (Value.int .i64)).toArray 3 (0, 0))
theorem Rw.at_ {w : World} {b : Nat} {L : List Int} (h : Rw w b L) {i : Nat} (hi : i < L.length) : w.cell? ⟨b, i, none⟩ = some (.int .i64 (L.getD i 0)) := by
  unfold Rw at h
  simp [World.cell?, h, List.getD_eq_getElem?_getD, hi]
theorem Rw.rd {w : World} {b : Nat} {L : List Int} (h : Rw w b L) (hw : Wf .i64 L) {n : Nat} (hn : n ≤ L.length) {c : Nat} (hc : n ≤ c) (hm : c ≤ maxLen) : Rd .i64 w b (b + 1) (some ⟨b, 0, none⟩) n c (L.take n) :=
  ⟨by simp; omega, hc, hm, lt_of_block h, Wf.take hw n, fun _ => ⟨b, 0, rfl, Nat.le_refl _, by omega, fun i hi => by
    rw [Nat.zero_add, h.at_ (by omega), List.getD_eq_getElem?_getD, List.getD_eq_getElem?_getD, List.getElem?_take, if_pos hi]⟩⟩
theorem Rw.own {w : World} {b lo n : Nat} {L : List Int} (h : Rw w b L) (hw : Wf .i64 L) (hl : lo ≤ b) (hn : L.length = n) (hm : n ≤ maxLen) : Ow 3 .i64 w lo w.heap.size (some ⟨b, 0, none⟩) n n L := by
  refine ⟨⟨by simpa using hn, Or.inr ⟨b, n, _, rfl, hl, h, Nat.le_refl _, hm, by simp; omega, by rw [Nat.mul_one, ← hn]; exact List.take_of_length_le (by simp)⟩⟩, hw, Nat.le_refl _, fun g o e => ?_⟩
  injection e with e; injection e with e _
  subst e
  exact lt_of_block h
theorem splice_map (L M : List Int) (o : Nat) : splice (L.map (Value.int .i64)) o (M.map (Value.int .i64)) = (splice L o M).map (Value.int .i64) := by simp [splice, List.map_take, List.map_drop]
theorem Rd.src {k : IntKind} {w : World} {lo hi n cap : Nat} {A : Option Addr} {zs : List Int} (h : Rd k w lo hi A n cap zs) (hn : 0 < n) : ∃ ad, A = some ad ∧ ∀ j v, (zs.map (Value.int k))[j]? = some v → w.cell? (ad.add j) = some v := by
  obtain ⟨_, h2⟩ := h.reads
  obtain ⟨ad, e, _, h3⟩ := h2 hn
  exact ⟨ad, e, h3⟩
/-- So many copies are there. -/
def reps (k : Nat) (zs : List Int) : List Int := (List.replicate k zs).flatten
theorem reps_succ (k : Nat) (zs : List Int) : reps (k + 1) zs = reps k zs ++ zs := by simp [reps, List.replicate_succ']
theorem reps_len (k : Nat) {zs : List Int} (h : zs.length = 18) : (reps k zs).length = 18 * k := by simp [reps, h, Nat.mul_comm]
theorem reps_three (zs : List Int) : reps 3 zs = zs ++ (zs ++ zs) := by simp [reps, List.replicate]
theorem reps_first {zs L : List Int} {k : Nat} (hz : zs.length = 18) (hk : 1 ≤ k) (h : L.take (18 * k) = reps k zs) : L.take 18 = zs := by
  have e : (L.take (18 * k)).take 18 = L.take 18 := by rw [List.take_take, Nat.min_eq_left (by omega)]
  rw [← e, h]
  obtain ⟨j, rfl⟩ : ∃ j, k = j + 1 := ⟨k - 1, by omega⟩
  unfold reps
  rw [List.replicate_succ, List.flatten_cons, List.take_append_of_le_length (by omega), List.take_of_length_le (by omega)]
theorem reps_next {zs L : List Int} {k : Nat} (hz : zs.length = 18) (hL : L.length = 54) (hk : k < 3) (h : L.take (18 * k) = reps k zs) : (splice L (18 * k) zs).take (18 * (k + 1)) = reps (k + 1) zs ∧ (splice L (18 * k) zs).length = 54 := by
  refine ⟨?_, by rw [length_splice _ _ _ (by omega), hL]⟩
  unfold splice
  rw [h, reps_succ, ← List.append_assoc, List.take_append_of_le_length (by rw [List.length_append, reps_len k hz]; omega), List.take_of_length_le (by rw [List.length_append, reps_len k hz]; omega)]
theorem splice_wf {L M : List Int} (h : Wf .i64 L) (g : Wf .i64 M) (o : Nat) : Wf .i64 (splice L o M) := (Wf.take h o).append (g.append (Wf.drop h _))
theorem madeN (n : Nat) : madeCells #[.int .i64 0] n = ((List.replicate n (0 : Int)).map (Value.int .i64)).toArray := by
  apply Array.ext
  · simp [madeCells]
  · intro i h1 h2
    simp [madeCells, Nat.mod_one]
theorem made54 : madeCells #[.int .i64 0] 54 = ((List.replicate 54 (0 : Int)).map (Value.int .i64)).toArray := madeN 54
set_option maxRecDepth 100000 in
set_option maxHeartbeats 1000000 in
theorem repeat3 (zs : List Int) (lo hi : Nat) (A : Option Addr) (cap : Nat) (w : World) (h : Rd .i64 w lo hi A 18 cap zs) :
    Calls Try.prog 41 #[.slice A 18 cap, .int .i64 3] w (SlPost 3 .i64 w (zs ++ (zs ++ zs))) := by
  obtain ⟨i0, hi0, hz0, hz1, hz2⟩ := info_parts intInfo
  have hmk : ∀ W : World, (Instr.makeSlice 27 (.int .i64 54) (.int .i64 54)).run Try.prog W = .ok (.slice (some ⟨W.heap.size, 0, none⟩) 54 54) (W.alloc (.cells (madeCells #[.int .i64 0] 54) 3)) := fun W => run_make1 (P := Try.prog) 27 3 i0 _ Try.underlying27 hi0 hz0 hz1 54 (by omega) (by omega) W
  have HS := Lib.hid (show (Try.prog.info? 3).map (·.size) = some 1 by rw [hi0]; simp [hz1])
  have HR := Lib.hid h
  have HL := Lib.hid h.len
  have R0 := Lib.hid (show Rw (w.alloc (.cells (madeCells #[.int .i64 0] 54) 3)) w.heap.size (List.replicate 54 0) by unfold Rw; rw [← made54]; exact heap_alloc_new w _)
  have B0 := Lib.hid ((Below.refl w.heap.size w).alloc (Nat.le_refl _) (.cells (madeCells #[.int .i64 0] 54) 3))
  have X0 := Lib.hid (h.alloc (.cells (madeCells #[.int .i64 0] 54) 3))
  clear h hi0 hz0 hz1 hz2
  go_enter Try.func41, Try.ntmps41
  go_wp2_with fail
  (with_reducible refine (mul _).mono ?_)
  rintro e w1 ⟨rfl, rfl⟩
  obtain ⟨Z, hZ⟩ : ∃ Z, Z = (List.replicate 54 (0 : Int)) := ⟨_, rfl⟩
  have HZ0 := Lib.hid (show Z.length = 54 by rw [hZ]; rfl)
  have HZW := Lib.hid (show Wf .i64 Z by rw [hZ]; exact Wf.of_i64 fun z hz => by have := List.eq_of_mem_replicate hz; omega)
  rw [← hZ] at R0
  clear hZ
  obtain ⟨cs, hcs⟩ : ∃ cs, cs = zs.map (Value.int .i64) := ⟨_, rfl⟩
  have HCL := Lib.hid (show cs.length = 18 by rw [hcs, List.length_map]; exact HL.out)
  have HC := Lib.hid hcs
  clear hcs
  go_wp2_with (refine wpList_copy_splice rfl _ _ 27 27 rfl 3 Try.underlying27 HS.out _ _ 54 54 18 cap rfl rfl w.heap.size 0 (Z.map (Value.int .i64)) 3 R0.out cs (by rw [HCL.out]; rfl) (fun _ => ⟨rfl, by have hc := HC.out; subst hc; exact Rd.src X0.out (by omega)⟩) (by rw [HCL.out, List.length_map, HZ0.out]; omega) (by have hc := HC.out; subst hc; exact one_cells _ _) w.heap.size w B0.out (Nat.le_refl _) ?_; intro w2 hg2 hb2; have G2 := Lib.hid hg2.out; have B2 := Lib.hid hb2; clear hg2 hb2)
  have HCL0 : ((cs.length : Nat) : Int) = 18 := by rw [HCL.out]; rfl
  rw [HCL0]
  have G3 := Lib.hid (show Rw w2 w.heap.size (splice Z 0 zs) by have := G2.out; rw [HC.out, splice_map] at this; exact this)
  have HT3 := Lib.hid (show (splice Z 0 zs).take (18 * 1) = reps 1 zs ∧ (splice Z 0 zs).length = 54 from reps_next (k := 0) HL.out HZ0.out (by omega) (by simp [reps]))
  have HW3 := Lib.hid (splice_wf HZW.out HR.out.wf 0)
  clear G2 HCL0 hmk R0 B0
  go_loopw [8] (fun i wr => ∃ (k : Nat) (n : Int) (L : List Int), i = .int .i64 n ∧ ((k = 1 ∧ n = 18) ∨ (k = 2 ∧ n = 36) ∨ (k = 3 ∧ n = 54)) ∧ L.length = 54 ∧ L.take (18 * k) = reps k zs ∧ Wf .i64 L ∧ Rw wr w.heap.size L ∧ Below w.heap.size w wr) (fun i _ => 54 - (intOf i).toNat)
  case atStart => exact ⟨1, _, _, rfl, Or.inl ⟨rfl, rfl⟩, HT3.out.2, HT3.out.1, HW3.out, G3.out, B2.out⟩
  case round =>
    clear HT3 HW3 G3 B2
    obtain ⟨w3, rfl⟩ : ∃ w3, w3 = wr := ⟨wr, rfl⟩
    obtain ⟨k, n, L, rfl, hk, hLl, hLt, hLw, hLr, hbl⟩ := hrel
    have HLL := Lib.hid hLl
    have HTK := Lib.hid hLt
    have HLW := Lib.hid hLw
    have RL := Lib.hid hLr
    have BL := Lib.hid hbl
    have HTZ := Lib.hid (reps_first HL.out (by omega) hLt)
    clear hLl hLt hLw hLr hbl
    rcases hk with ⟨rfl, rfl⟩ | ⟨rfl, rfl⟩ | ⟨rfl, rfl⟩
    · have HT := Lib.hid (reps_next HL.out HLL.out (k := 1) (by omega) HTK.out)
      have HW := Lib.hid (splice_wf HLW.out HR.out.wf (18 * 1))
      have hsrc := Lib.hid (Rd.src (own.rd_drew (Rw.rd RL.out HLW.out (n := 18) (by rw [HLL.out]; omega) (c := 54) (by omega) (by unfold maxLen; omega))) (by omega))
      rw [HTZ.out] at hsrc
      have HCL0 : ((cs.length : Nat) : Int) = 18 := by rw [HCL.out]; rfl
      go_wp2_with fail
      go_region_law (refine step_copy_splice rfl (.tmp 41) (.tmp 44) 27 27 rfl 3 Try.underlying27 HS.out (some ⟨w.heap.size, 18, none⟩) (some ⟨w.heap.size, 0, none⟩) 36 36 18 54 (by go_simp) (by go_simp) w.heap.size 18 (L.map (Value.int .i64)) 3 RL.out cs (by rw [HCL.out]; rfl) (fun _ => ⟨rfl, by have hc := HC.out; subst hc; exact hsrc.out⟩) (by rw [HCL.out, List.length_map, HLL.out]; omega) (by have hc := HC.out; subst hc; exact one_cells _ _) w.heap.size w (own.below_drew BL.out) (Nat.le_refl _) ?_; intro w4 hg4 hb4)
      have G4 := Lib.hid (show Rw w4 w.heap.size (splice L 18 zs) by have := hg4.out; rw [HC.out, splice_map] at this; exact this)
      have B4 := Lib.hid hb4
      clear hg4 hb4 hsrc
      simp only [List.getElem_toArray, List.getElem_cons_succ, List.getElem_cons_zero, Act.put, List.setIfInBounds_toArray, List.set_cons_succ, List.set_cons_zero]
      go_wp2_with fail
      go_roundw
      case rel => exact ⟨2, _, _, rfl, Or.inr (Or.inl ⟨rfl, rfl⟩), HT.out.2, HT.out.1, HW.out, G4.out, B4.out⟩
      case measure => simp [intOf]; decide
    · have HT := Lib.hid (reps_next HL.out HLL.out (k := 2) (by omega) HTK.out)
      have HW := Lib.hid (splice_wf HLW.out HR.out.wf (18 * 2))
      have hsrc := Lib.hid (Rd.src (own.rd_drew (Rw.rd RL.out HLW.out (n := 18) (by rw [HLL.out]; omega) (c := 54) (by omega) (by unfold maxLen; omega))) (by omega))
      rw [HTZ.out] at hsrc
      have HCL0 : ((cs.length : Nat) : Int) = 18 := by rw [HCL.out]; rfl
      go_wp2_with fail
      go_region_law (refine step_copy_splice rfl (.tmp 41) (.tmp 44) 27 27 rfl 3 Try.underlying27 HS.out (some ⟨w.heap.size, 36, none⟩) (some ⟨w.heap.size, 0, none⟩) 18 18 36 54 (by go_simp) (by go_simp) w.heap.size 36 (L.map (Value.int .i64)) 3 RL.out cs (by rw [HCL.out]; rfl) (fun _ => ⟨rfl, by have hc := HC.out; subst hc; exact hsrc.out⟩) (by rw [HCL.out, List.length_map, HLL.out]; omega) (by have hc := HC.out; subst hc; exact one_cells _ _) w.heap.size w (own.below_drew BL.out) (Nat.le_refl _) ?_; intro w4 hg4 hb4)
      have G4 := Lib.hid (show Rw w4 w.heap.size (splice L 36 zs) by have := hg4.out; rw [HC.out, splice_map] at this; exact this)
      have B4 := Lib.hid hb4
      clear hg4 hb4 hsrc
      simp only [List.getElem_toArray, List.getElem_cons_succ, List.getElem_cons_zero, Act.put, List.setIfInBounds_toArray, List.set_cons_succ, List.set_cons_zero]
      go_wp2_with fail
      go_roundw
      case rel => exact ⟨3, _, _, rfl, Or.inr (Or.inr ⟨rfl, rfl⟩), HT.out.2, HT.out.1, HW.out, G4.out, B4.out⟩
      case measure => simp [intOf]; decide
    · have HT3 := Lib.hid (show L = zs ++ (zs ++ zs) by have h := HTK.out; rw [reps_three, List.take_of_length_le (by rw [HLL.out]; omega)] at h; exact h)
      have O3 := Lib.hid (Rw.own RL.out HLW.out (Nat.le_refl w.heap.size) HLL.out (by unfold maxLen; omega))
      rw [HT3.out] at O3
      go_wp2_with fail
      go_ret
      exact ⟨_, _, _, rfl, O3.out, BL.out⟩

theorem itb_dig {n : Int} (h : 0 ≤ n) (c : Nat) (hc : c ≤ 40) : bm.itb n (c : Int) = bm.dig n c := by rw [bm.itb_yes h (by omega), Int.toNat_natCast]
theorem itb_len' {n : Int} (h : 0 ≤ n) (c : Nat) (hc : c ≤ 40) : (bm.itb n (c : Int)).length = c := by rw [itb_dig h c hc, bm.dig_len]
theorem par17 (r l s : Int) : hd17 r l s ++ [bits.par (hd17 r l s)] = hd18 r l s := rfl
theorem wf_par (L : List Int) : (Lit.int .i64 (bits.par L)).wf = true := WalkArith.wf_i64 (by unfold bits.par; omega)
set_option maxRecDepth 100000 in
set_option maxHeartbeats 4000000 in
theorem implEnc (r l s : Int) (w : World) :
    Calls Try.prog 13 #[.agg #[.int .i64 r, .int .i64 l, .int .i64 s]] w (SlPost 3 .i64 w (enc r l s)) := by
  by_cases h : Hv r l s
  · obtain ⟨i0, hi0, hz0, hz1, hz2⟩ := info_parts intInfo
    have HI0 := Lib.hid (And.intro hi0 (And.intro hz0 (And.intro hz1 hz2)))
    have HV := Lib.hid (hv_yes h)
    have HE := Lib.hid (enc_yes h)
    have h' := h
    unfold Hv at h'
    have E1 := Lib.hid (show bm.itb r 2 = bm.dig r 2 from itb_dig (by omega) 2 (by omega))
    have E2 := Lib.hid (show bm.itb l 8 = bm.dig l 8 from itb_dig (by omega) 8 (by omega))
    have E3 := Lib.hid (show bm.itb s 7 = bm.dig s 7 from itb_dig (by omega) 7 (by omega))
    clear h h' hi0 hz0 hz1 hz2
    go_enter Try.func13, Try.ntmps13
    go_wp2_with fail
    (with_reducible refine (implHv _ _ _ _).mono ?_)
    rw [HV.out]
    rintro e w1 ⟨rfl, hb⟩
    have B1 := Lib.hid ((below_box w (.cells #[.int .i64 r, .int .i64 l, .int .i64 s] 25)).trans (hb.mono (by simp)))
    have X1 := Lib.hid ((Box.made w r l s).below hb)
    clear hb
    have c0 := X1.out.c0
    have c1 := X1.out.c1
    have c2 := X1.out.c2
    go_wp2_with fail
    go_region_held3 (fun w' => w'.cell? ⟨w.heap.size, 0, none⟩ = some (.int .i64 r) ∧ w'.cell? ⟨w.heap.size, 1, none⟩ = some (.int .i64 l) ∧ w'.cell? ⟨w.heap.size, 2, none⟩ = some (.int .i64 s)) (first | exact ⟨c0, c1, c2⟩ | exact ⟨k0, k1, k2⟩ | exact ⟨q0, q1, q2⟩ | exact ⟨p0, p1, p2⟩ | exact ⟨d0, d1, d2⟩ | go_keep)
      (first
      | (go_at_call 38; refine (cat.concat _ _ 3 3 _ (cat.trip_lie O24.out.rd O34.out.rd O4.out.rd _) (by omega) (by rw [cat.trip_tot, ← O24.out.len, ← O34.out.len, ← O4.out.len, bm.dig_len, bm.dig_len, bm.dig_len]; omega)).mono ?_; rw [cat.trip_flat]; rintro e w5 ⟨A5, n5, c5, rfl, ho, hb⟩; have O5 := Lib.hid (show Ow _ _ _ _ _ _ _ _ (hd17 r l s) from ho); have B5 := Lib.hid ((B4.out.alloc B4.out.size _).trans (hb.mono (by have := B4.out.size; simp; omega))); have X5 := Lib.hid ((X4.out.below (below_box w4 _)).below hb); have d0 := X5.out.c0; have d1 := X5.out.c1; have d2 := X5.out.c2; clear ho hb)
      | (have g9 := q0; clear g9; go_at_call 39; refine (bits.implItb s 7 _).mono ?_; rintro e w4 ⟨A4, n4, c4, rfl, ho, hb⟩; rw [E3.out] at ho; have O4 := Lib.hid ho; have X4 := Lib.hid (X3.out.below hb); have B4 := Lib.hid (B3.out.trans (hb.mono B3.out.size)); have O24 := Lib.hid (O23.out.below hb); have O34 := Lib.hid (O3.out.below hb); have p0 := X4.out.c0; have p1 := X4.out.c1; have p2 := X4.out.c2; clear ho hb)
      | (have g9 := k0; clear g9; go_at_call 39; refine (bits.implItb l 8 _).mono ?_; rintro e w3 ⟨A3, n3, c3, rfl, ho, hb⟩; rw [E2.out] at ho; have O3 := Lib.hid ho; have X3 := Lib.hid (X2.out.below hb); have B3 := Lib.hid (B2.out.trans (hb.mono B2.out.size)); have O23 := Lib.hid (O2.out.below hb); have q0 := X3.out.c0; have q1 := X3.out.c1; have q2 := X3.out.c2; clear ho hb)
      | (go_at_call 39; refine (bits.implItb r 2 _).mono ?_; rintro e w2 ⟨A2, n2, c2', rfl, ho, hb⟩; rw [E1.out] at ho; have O2 := Lib.hid ho; have X2 := Lib.hid (X1.out.same (w' := w2) (hb.block _ X1.out.lt)); have B2 := Lib.hid (B1.out.trans ((show Below w1.heap.size w1 w2 from ⟨hb.os, hb.tape, hb.output, hb.size, hb.block⟩).mono B1.out.size)); have k0 := X2.out.c0; have k1 := X2.out.c1; have k2 := X2.out.c2; clear ho hb))
    clear c0 c1 c2 k0 k1 k2 q0 q1 q2 p0 p1 p2 d0 d1 d2
    have hn5 : n5 = 17 := by rw [← O5.out.len]; exact hd17_len r l s
    subst hn5
    have P5 := Lib.hid (O5.out.down (lo2 := w.heap.size) (by have := B4.out.size; simp; omega))
    clear O2 X2 B2 O3 X3 B3 O23 O4 X4 B4 O24 O34 O5 X5 X1
    go_wp2_with fail
    (with_reducible refine (bits.implPar (hd17 r l s) _ _ A5 17 c5 _ P5.out.rd).mono ?_)
    rintro e w6 ⟨rfl, rfl⟩
    go_wp2_with (at_builtin; refine wpList_app _ rfl _ _ 27 rfl 3 i0 _ .i64 Try.underlying27 HI0.out.1 HI0.out.2.1 HI0.out.2.2.1 (by rw [HI0.out.2.2.2]; omega) rfl rfl rfl (P5.out.alloc _) (Rd.one .i64 3 w5 _ (wf_par _)) (by omega) (by have := B5.out.size; simp; omega) ?_; intro A7 c7 w7 ho7 hb7; have O7 := Lib.hid (show Ow _ _ _ _ _ _ _ _ (hd18 r l s) from ho7); have B7 := Lib.hid ((B5.out.alloc B5.out.size _).trans hb7); clear ho7 hb7)
    (with_reducible refine (repeat3 (hd18 r l s) _ _ A7 c7 _ O7.out.rd).mono ?_)
    rintro e w8 ⟨A8, n8, c8, rfl, ho, hb⟩
    have O8 := Lib.hid (ho.down (lo2 := w.heap.size) B7.out.size)
    have B8 := Lib.hid (B7.out.trans (hb.mono B7.out.size))
    clear ho hb
    go_wp2_with fail
    go_ret
    rw [HE.out]
    exact ⟨_, _, _, rfl, O8.out, B8.out⟩
  · have HV := Lib.hid (hv_no h)
    have HE := Lib.hid (enc_no h)
    clear h
    go_enter Try.func13, Try.ntmps13
    go_wp2_with fail
    (with_reducible refine (implHv _ _ _ _).mono ?_)
    rw [HV.out]
    rintro e w1 ⟨rfl, hb⟩
    have B1 := Lib.hid ((below_box w (.cells #[.int .i64 r, .int .i64 l, .int .i64 s] 25)).trans (hb.mono (by simp)))
    clear hb
    go_wp2_with fail
    go_ret
    rw [HE.out]
    exact ⟨_, 0, 0, rfl, ((Ow.empty 3 .i64 w1).down B1.out.size).up, B1.out.alloc B1.out.size _⟩
set_option maxRecDepth 100000 in
set_option maxHeartbeats 4000000 in
theorem specEnc (r l s : Int) (w : World) :
    Calls Try.prog 20 #[.agg #[.int .i64 r, .int .i64 l, .int .i64 s]] w (SlPost 3 .i64 w (enc r l s)) := by
  by_cases h : Hv r l s
  · obtain ⟨i0, hi0, hz0, hz1, hz2⟩ := info_parts intInfo
    have HI0 := Lib.hid (And.intro hi0 (And.intro hz0 (And.intro hz1 hz2)))
    have HV := Lib.hid (hv_yes h)
    have HE := Lib.hid (enc_yes h)
    have h' := h
    unfold Hv at h'
    have E1 := Lib.hid (show bm.itb r 2 = bm.dig r 2 from itb_dig (by omega) 2 (by omega))
    have E2 := Lib.hid (show bm.itb l 8 = bm.dig l 8 from itb_dig (by omega) 8 (by omega))
    have E3 := Lib.hid (show bm.itb s 7 = bm.dig s 7 from itb_dig (by omega) 7 (by omega))
    clear h h' hi0 hz0 hz1 hz2
    go_enter Try.func20, Try.ntmps20
    go_wp2_with fail
    (with_reducible refine (specHv _ _ _ _).mono ?_)
    rw [HV.out]
    rintro e w1 ⟨rfl, hb⟩
    have B1 := Lib.hid ((below_box w (.cells #[.int .i64 r, .int .i64 l, .int .i64 s] 25)).trans (hb.mono (by simp)))
    have X1 := Lib.hid ((Box.made w r l s).below hb)
    clear hb
    have c0 := X1.out.c0
    have c1 := X1.out.c1
    have c2 := X1.out.c2
    go_wp2_with fail
    go_region_held3 (fun w' => w'.cell? ⟨w.heap.size, 0, none⟩ = some (.int .i64 r) ∧ w'.cell? ⟨w.heap.size, 1, none⟩ = some (.int .i64 l) ∧ w'.cell? ⟨w.heap.size, 2, none⟩ = some (.int .i64 s)) (first | exact ⟨c0, c1, c2⟩ | exact ⟨k0, k1, k2⟩ | exact ⟨q0, q1, q2⟩ | exact ⟨p0, p1, p2⟩ | exact ⟨d0, d1, d2⟩ | exact ⟨e0, e1, e2⟩ | go_keep)
      (first
      | (have g9 := p0; clear g9; go_at_call 47; refine (bits.specItb s 7 _).mono ?_; rintro e w5 ⟨A5, n5, c5, rfl, ho, hb⟩; rw [E3.out] at ho; have O5 := Lib.hid ho; have X5 := Lib.hid (X4.out.below hb); have B5 := Lib.hid (B4.out.trans (hb.mono B4.out.size)); have O45 := Lib.hid (O4.out.below hb); have N5 := Lib.hid (show n5 = 7 by rw [← ho.len, bm.dig_len]); have L5 := Lib.hid hb.size; have d0 := X5.out.c0; have d1 := X5.out.c1; have d2 := X5.out.c2; clear ho hb)
      | (have g9 := k0; clear g9; go_at_call 47; refine (bits.specItb l 8 _).mono ?_; rintro e w3 ⟨A3, n3, c3, rfl, ho, hb⟩; rw [E2.out] at ho; have O3 := Lib.hid ho; have X3 := Lib.hid (X2.out.below hb); have B3 := Lib.hid (B2.out.trans (hb.mono B2.out.size)); have O23 := Lib.hid (O2.out.below hb); have N3 := Lib.hid (show n3 = 8 by rw [← ho.len, bm.dig_len]); have L3 := Lib.hid hb.size; have q0 := X3.out.c0; have q1 := X3.out.c1; have q2 := X3.out.c2; clear ho hb)
      | (go_at_call 47; refine (bits.specItb r 2 _).mono ?_; rintro e w2 ⟨A2, n2, c2', rfl, ho, hb⟩; rw [E1.out] at ho; have O2 := Lib.hid (show Ow 3 .i64 w2 w1.heap.size w2.heap.size A2 n2 c2' (bm.dig r 2) from ho); have X2 := Lib.hid (X1.out.same (w' := w2) (hb.block _ X1.out.lt)); have B2 := Lib.hid (B1.out.trans ((show Below w1.heap.size w1 w2 from ⟨hb.os, hb.tape, hb.output, hb.size, hb.block⟩).mono B1.out.size)); have N2 := Lib.hid (show n2 = 2 by rw [← ho.len, bm.dig_len]); have L2 := Lib.hid (show w1.heap.size ≤ w2.heap.size from hb.size); have k0 := X2.out.c0; have k1 := X2.out.c1; have k2 := X2.out.c2; clear ho hb)
      | (have g9 := d0; clear g9; refine bits.step_app rfl _ _ 27 rfl 3 i0 _ .i64 Try.underlying27 HI0.out.1 HI0.out.2.1 HI0.out.2.2.1 (by rw [HI0.out.2.2.2]; omega) rfl rfl rfl O45.out O5.out.rd (by rw [N2.out, N3.out, N5.out]; omega) (by have := L2.out; have := L3.out; have := L4.out; have := L5.out; omega) ?_; intro A6 c6 w6 ho6 hb6; have O6 := Lib.hid ho6; have X6 := Lib.hid (X5.out.up hb6 X1.out.lt); have B6 := Lib.hid (B5.out.trans (hb6.mono B1.out.size)); have e0 := X6.out.c0; have e1 := X6.out.c1; have e2 := X6.out.c2; clear ho6 hb6)
      | (refine bits.step_app rfl _ _ 27 rfl 3 i0 _ .i64 Try.underlying27 HI0.out.1 HI0.out.2.1 HI0.out.2.2.1 (by rw [HI0.out.2.2.2]; omega) rfl rfl rfl O23.out O3.out.rd (by rw [N2.out, N3.out]; omega) (by have := L2.out; have := L3.out; omega) ?_; intro A4 c4 w4 ho4 hb4; have O4 := Lib.hid ho4; have L4 := Lib.hid hb4.size; have X4 := Lib.hid (X3.out.up hb4 X1.out.lt); have B4 := Lib.hid (B3.out.trans (hb4.mono B1.out.size)); have p0 := X4.out.c0; have p1 := X4.out.c1; have p2 := X4.out.c2; clear ho4 hb4))
    clear c0 c1 c2 k0 k1 k2 q0 q1 q2 p0 p1 p2 d0 d1 d2 e0 e1 e2
    have hs6 : n2 + n3 + n5 = 17 := by rw [N2.out, N3.out, N5.out]
    rw [hs6] at O6 ⊢
    have P6 := Lib.hid (show Ow 3 .i64 w6 w.heap.size w6.heap.size A6 17 c6 (hd17 r l s) by have := O6.out.down (lo2 := w.heap.size) B1.out.size; rw [List.append_assoc] at this; exact this)
    clear hs6 O2 X2 B2 N2 L2 O3 X3 B3 N3 L3 O23 O4 X4 B4 L4 O5 X5 B5 O45 N5 L5 O6 X6 X1
    go_wp2_with fail
    (with_reducible refine (bits.specPar (hd17 r l s) _ _ A6 17 c6 _ P6.out.rd).mono ?_)
    rintro e w7 ⟨rfl, rfl⟩
    go_wp2_with (first
      | (have g9 := O9; clear g9; at_builtin; refine wpList_app _ rfl _ _ 27 rfl 3 i0 _ .i64 Try.underlying27 HI0.out.1 HI0.out.2.1 HI0.out.2.2.1 (by rw [HI0.out.2.2.2]; omega) rfl rfl rfl O9.out R9.out (by simp) S9.out ?_; intro A10 c10 w10 ho10 hb10; have O10 := Lib.hid ho10; have B10 := Lib.hid (B9.out.trans (hb10.mono B7.out.size)); clear ho10 hb10)
      | (have g9 := O8; clear g9; at_builtin; refine wpList_app _ rfl _ _ 27 rfl 3 i0 _ .i64 Try.underlying27 HI0.out.1 HI0.out.2.1 HI0.out.2.2.1 (by rw [HI0.out.2.2.2]; omega) rfl rfl rfl O8.out R8.out (by simp) S8.out ?_; intro A9 c9 w9 ho9 hb9; have O9 := Lib.hid ho9; have S9 := Lib.hid (Nat.le_trans S8.out hb9.size); have B9 := Lib.hid (B8.out.trans (hb9.mono B7.out.size)); have R9 := Lib.hid (Rd.upto R8.out hb9 (Nat.le_refl _)); clear ho9 hb9)
      | (have g9 := O7; clear g9; at_builtin; refine wpList_app _ rfl _ _ 27 rfl 3 i0 _ .i64 Try.underlying27 HI0.out.1 HI0.out.2.1 HI0.out.2.2.1 (by rw [HI0.out.2.2.2]; omega) rfl rfl rfl (Ow.empty 3 .i64 w7) (O7.out.rd.alloc _) (by simp) (by simp) ?_; intro A8 c8 w8 ho8 hb8; have O8 := Lib.hid ho8; have B8 := Lib.hid ((B7.out.alloc B7.out.size _).trans (hb8.mono B7.out.size)); have R8 := Lib.hid (Rd.upto (O7.out.rd.alloc _) hb8 (Nat.le_refl _)); have S8 := Lib.hid (show w7.heap.size ≤ w8.heap.size by have := hb8.size; simp at this; omega); clear ho8 hb8)
      | (at_builtin; refine wpList_app _ rfl _ _ 27 rfl 3 i0 _ .i64 Try.underlying27 HI0.out.1 HI0.out.2.1 HI0.out.2.2.1 (by rw [HI0.out.2.2.2]; omega) rfl rfl rfl (P6.out.alloc _) (Rd.one .i64 3 w6 _ (wf_par _)) (by omega) (by have := B6.out.size; simp; omega) ?_; intro A7 c7 w7 ho7 hb7; have O7 := Lib.hid (show Ow _ _ _ _ _ _ _ _ (hd18 r l s) from ho7); have B7 := Lib.hid ((B6.out.alloc B6.out.size _).trans hb7); clear ho7 hb7))
    go_ret
    rw [HE.out]
    have hz := (O10.out.down (lo2 := w.heap.size) B7.out.size)
    rw [List.nil_append, List.append_assoc] at hz
    exact ⟨_, _, _, rfl, hz, B10.out⟩
  · have HV := Lib.hid (hv_no h)
    have HE := Lib.hid (enc_no h)
    clear h
    go_enter Try.func20, Try.ntmps20
    go_wp2_with fail
    (with_reducible refine (specHv _ _ _ _).mono ?_)
    rw [HV.out]
    rintro e w1 ⟨rfl, hb⟩
    have B1 := Lib.hid ((below_box w (.cells #[.int .i64 r, .int .i64 l, .int .i64 s] 25)).trans (hb.mono (by simp)))
    clear hb
    go_wp2_with fail
    go_ret
    rw [HE.out]
    exact ⟨_, 0, 0, rfl, ((Ow.empty 3 .i64 w1).down B1.out.size).up, B1.out.alloc B1.out.size _⟩
end Go.Proofs.Ytdelpepepbkjmaa.phs
